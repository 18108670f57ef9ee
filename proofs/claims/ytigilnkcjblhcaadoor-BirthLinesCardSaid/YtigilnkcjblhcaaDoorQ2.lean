/- Births and deaths: Steady. -/
import Derived.Test.YtigilnkcjblhcaaDoorQ1
import Derived.Test.YtigilnkcjblhcaaDoorA15
import Derived.Test.YtigilnkcjblhcaaDoorQ0
namespace Go.Proofs.YtigilnkcjblhcaaDoor
open Go.RowKit Go.Sort Go.Shelf

/-- Pairs that may be. -/
def OkP (U D : List Rat) : Prop := ∀ j, j < U.length → 0 ≤ U[j]!.num ∧ 0 < D[j]!.num
def pev (U D : List Rat) (i : Nat) : Rat := Bth.pe (fun j => U[j]!) (fun j => D[j]!) i

set_option maxHeartbeats 4000000 in
set_option maxRecDepth 100000 in
set_option linter.unusedSimpArgs false in
theorem steady_form (vu vd : Value) (U D : List Rat) (w : World) (hU : LawIs w vu U) (hD : LawIs w vd D) (hn : U.length ≤ 25) (hl : U.length ≠ D.length) :
    Calls Tryd.prog 7 #[vu, vd] w fun e w' => e = .returned (.tuple #[.slice none 0 0, .iface 62 (.int .i64 3)]) ∧ Below w.heap.size w w' := by
  obtain ⟨a, c, rfl, h1, h2, h3⟩ := hU
  obtain ⟨a', c', rfl, h1', h2', h3'⟩ := hD
  clear h3 h3'
  have e1 : ¬ (100 : Int) < (U.length : Int) := by omega
  have e2 : ¬ (U.length : Int) = (D.length : Int) := by omega
  go_enter Tryd.func7, Tryd.ntmps7
  go_wp2
  go_ret2
  exact ⟨rfl, Below.refl _ _⟩

set_option maxHeartbeats 4000000 in
set_option maxRecDepth 100000 in
set_option linter.unusedSimpArgs false in
theorem steady_arg (vu vd : Value) (U D : List Rat) (w : World) (hU : LawIs w vu U) (hD : LawIs w vd D) (hn : U.length ≤ 25) (hl : U.length = D.length) (hno : ¬ OkP U D) :
    Calls Tryd.prog 7 #[vu, vd] w fun e w' => e = .returned (.tuple #[.slice none 0 0, .iface 62 (.int .i64 1)]) ∧ Below w.heap.size w w' := by
  obtain ⟨a, c, rfl, h1, h2, h3⟩ := hU
  obtain ⟨a', c', rfl, h1', h2', h3'⟩ := hD
  have H3 := hide h3
  have H3' := hide h3'
  have HNO := hide hno
  have HLEN := hide hl
  obtain ⟨N, hN⟩ : ∃ N, U.length = N := ⟨_, rfl⟩
  have hN' : D.length = N := by rw [← hl, hN]
  rw [hN] at h1 hn ⊢
  rw [hN'] at h1' ⊢
  have HN := hide hN
  have HN' := hide hN'
  clear h3 h3' hno hl hN hN'
  have e1 : ¬ (100 : Int) < (N : Int) := by omega
  go_enter Tryd.func7, Tryd.ntmps7
  go_wp2_with fail
  go_loopw [21] (fun vi wr => ∃ i : Nat, vi = .int .i64 (i : Int) ∧ i ≤ N ∧ Below w.heap.size w wr ∧ ∀ j, j < i → 0 ≤ U[j]!.num ∧ 0 < D[j]!.num) (fun vi _ => N - (intOf vi).toNat)
  case atStart => exact ⟨0, rfl, Nat.zero_le _, Below.refl _ _, fun j h => absurd h (Nat.not_lt_zero _)⟩
  case round =>
    obtain ⟨i, rfl, hi, hb, hall⟩ := hrel
    by_cases hlt : i < N
    · obtain ⟨b, o, rfl, hblt, hcs⟩ := unhide H3 (by rw [unhide HN]; omega)
      obtain ⟨b', o', rfl, hblt', hcs'⟩ := unhide H3' (by rw [unhide HN']; omega)
      obtain ⟨xs, xp1, xp2, xn1, xd1, xn2, xd2, xk0, xk1, xk2, xr⟩ := hcs i (by rw [unhide HN]; exact hlt)
      obtain ⟨tx, rfl, rfl, rfl, rfl, rfl, rfl, rfl⟩ : ∃ t : Tri, xs = t.s ∧ xp1 = t.a1 ∧ xp2 = t.a2 ∧ xn1 = t.n1 ∧ xd1 = t.c1 ∧ xn2 = t.n2 ∧ xd2 = t.c2 := ⟨⟨xs, xp1, xp2, xn1, xd1, xn2, xd2⟩, rfl, rfl, rfl, rfl, rfl, rfl, rfl⟩
      obtain ⟨ys, yp1, yp2, yn1, yd1, yn2, yd2, yk0, yk1, yk2, yr⟩ := hcs' i (by rw [unhide HN']; exact hlt)
      obtain ⟨ty, rfl, rfl, rfl, rfl, rfl, rfl, rfl⟩ : ∃ t : Tri, ys = t.s ∧ yp1 = t.a1 ∧ yp2 = t.a2 ∧ yn1 = t.n1 ∧ yd1 = t.c1 ∧ yn2 = t.n2 ∧ yd2 = t.c2 := ⟨⟨ys, yp1, yp2, yn1, yd1, yn2, yd2⟩, rfl, rfl, rfl, rfl, rfl, rfl, rfl⟩
      rw [← hb.cell (p := ⟨b, o + i * 3, none⟩) hblt] at xk0
      rw [← hb.cell (p := ⟨b, o + i * 3 + 1, none⟩) hblt] at xk1
      rw [← hb.cell (p := ⟨b, o + i * 3 + 2, none⟩) hblt] at xk2
      rw [← hb.cell (p := ⟨b', o' + i * 3, none⟩) hblt'] at yk0
      rw [← hb.cell (p := ⟨b', o' + i * 3 + 1, none⟩) hblt'] at yk1
      rw [← hb.cell (p := ⟨b', o' + i * 3 + 2, none⟩) hblt'] at yk2
      have HXR := hide (xr.below hb)
      have HYR := hide (yr.below hb)
      have e2 : (i : Int) < (N : Int) := by omega
      have e3 : (0 : Int) ≤ (i : Int) := by omega
      have HB := hide hb
      have HALL := hide hall
      have HCY : Hid (∀ W, Below wr.heap.size wr W → (W.cell? ⟨b', o' + i * 3, none⟩ = some (.bool ty.s) ∧ W.cell? ⟨b', o' + i * 3 + 1, none⟩ = some (.slice ty.a1 ty.n1 ty.c1) ∧ W.cell? ⟨b', o' + i * 3 + 2, none⟩ = some (.slice ty.a2 ty.n2 ty.c2))) := fun W hW => by
        rw [hW.cell (p := ⟨b', o' + i * 3, none⟩) (Nat.lt_of_lt_of_le hblt' (unhide HB).size), hW.cell (p := ⟨b', o' + i * 3 + 1, none⟩) (Nat.lt_of_lt_of_le hblt' (unhide HB).size), hW.cell (p := ⟨b', o' + i * 3 + 2, none⟩) (Nat.lt_of_lt_of_le hblt' (unhide HB).size)]
        exact ⟨yk0, yk1, yk2⟩
      clear hb hall xr yr hcs hcs' yk0 yk1 yk2
      by_cases s1 : U[i]!.num < 0
      · have HSX : Hid (∀ W, Below wr.heap.size wr W → Calls Tryd.prog 16 #[.agg #[.bool tx.s, .slice tx.a1 tx.n1 tx.c1, .slice tx.a2 tx.n2 tx.c2]] W fun e w' => e = .returned (.int .i64 (-1)) ∧ Below W.heap.size W w') := fun W hW => by
          have h := sign_any tx.val U[i]! W ((unhide HXR).below hW)
          rw [Int.sign_eq_neg_one_of_neg s1] at h
          exact h
        go_wp2_with fail
        refine (unhide HSX _ (Below.refl _ _)).mono ?_
        rintro e w1 ⟨rfl, hb1⟩
        have HB1 := hide (below_step (unhide HB) hb1)
        clear hb1
        go_wp2
        go_ret2
        exact ⟨rfl, unhide HB1⟩
      · by_cases s2 : 0 < D[i]!.num
        · have HSX : Hid (∀ W, Below wr.heap.size wr W → ∃ x : Int, 0 ≤ x ∧ x ≤ 1 ∧ Calls Tryd.prog 16 #[.agg #[.bool tx.s, .slice tx.a1 tx.n1 tx.c1, .slice tx.a2 tx.n2 tx.c2]] W fun e w' => e = .returned (.int .i64 x) ∧ Below W.heap.size W w') := fun W hW => ⟨U[i]!.num.sign, by have := Int.sign_nonneg_iff.2 (Int.not_lt.1 s1); exact this, (sign_bd _).2, sign_any tx.val U[i]! W ((unhide HXR).below hW)⟩
          have HSY : Hid (∀ W, Below wr.heap.size wr W → Calls Tryd.prog 16 #[.agg #[.bool ty.s, .slice ty.a1 ty.n1 ty.c1, .slice ty.a2 ty.n2 ty.c2]] W fun e w' => e = .returned (.int .i64 1) ∧ Below W.heap.size W w') := fun W hW => by
            have h := sign_any ty.val D[i]! W ((unhide HYR).below hW)
            rw [Int.sign_eq_one_of_pos s2] at h
            exact h
          have HNX : Hid (∀ j, j < i + 1 → 0 ≤ U[j]!.num ∧ 0 < D[j]!.num) := fun j hj => by
            rcases Nat.lt_or_ge j i with h | h
            · exact unhide HALL j h
            · obtain rfl : j = i := by omega
              exact ⟨Int.not_lt.1 s1, s2⟩
          obtain ⟨x, x0, x1, HX⟩ := unhide HSX wr (Below.refl _ _)
          have HXC := hide HX
          clear HX HSX
          go_wp2_with fail
          refine (unhide HXC).mono ?_
          rintro e w1 ⟨rfl, hb1⟩
          have ⟨yk0, yk1, yk2⟩ := unhide HCY _ hb1
          have HB1 := hide hb1
          clear hb1
          go_wp2_with fail
          refine (unhide HSY w1 (unhide HB1)).mono ?_
          rintro e w2 ⟨rfl, hb2⟩
          have HB2 := hide (below_step (below_step (unhide HB) (unhide HB1)) hb2)
          clear hb2 yk0 yk1 yk2
          go_wp2
          exact ⟨⟨i + 1, by go_num, hlt, unhide HB2, unhide HNX⟩, by simp [intOf]; omega⟩
        · have HSX : Hid (∀ W, Below wr.heap.size wr W → ∃ x : Int, 0 ≤ x ∧ x ≤ 1 ∧ Calls Tryd.prog 16 #[.agg #[.bool tx.s, .slice tx.a1 tx.n1 tx.c1, .slice tx.a2 tx.n2 tx.c2]] W fun e w' => e = .returned (.int .i64 x) ∧ Below W.heap.size W w') := fun W hW => ⟨U[i]!.num.sign, by have := Int.sign_nonneg_iff.2 (Int.not_lt.1 s1); exact this, (sign_bd _).2, sign_any tx.val U[i]! W ((unhide HXR).below hW)⟩
          have HSY : Hid (∀ W, Below wr.heap.size wr W → ∃ x : Int, -1 ≤ x ∧ x ≤ 0 ∧ Calls Tryd.prog 16 #[.agg #[.bool ty.s, .slice ty.a1 ty.n1 ty.c1, .slice ty.a2 ty.n2 ty.c2]] W fun e w' => e = .returned (.int .i64 x) ∧ Below W.heap.size W w') := fun W hW => ⟨D[i]!.num.sign, (sign_bd _).1, by have := (@Int.sign_nonpos_iff D[i]!.num).2 (Int.not_lt.1 s2); exact this, sign_any ty.val D[i]! W ((unhide HYR).below hW)⟩
          obtain ⟨x, x0, x1, HX⟩ := unhide HSX wr (Below.refl _ _)
          have HXC := hide HX
          clear HX HSX
          go_wp2_with fail
          refine (unhide HXC).mono ?_
          rintro e w1 ⟨rfl, hb1⟩
          have ⟨yk0, yk1, yk2⟩ := unhide HCY _ hb1
          have HB1 := hide hb1
          clear hb1
          obtain ⟨y, y0, y1, HY⟩ := unhide HSY w1 (unhide HB1)
          have HYC := hide HY
          clear HY HSY
          go_wp2_with fail
          refine (unhide HYC).mono ?_
          rintro e w2 ⟨rfl, hb2⟩
          have HB2 := hide (below_step (below_step (unhide HB) (unhide HB1)) hb2)
          clear hb2 yk0 yk1 yk2
          go_wp2
          go_ret2
          exact ⟨rfl, unhide HB2⟩
    · obtain rfl : i = N := by omega
      have e2 : ¬ (i : Int) < (i : Int) := by omega
      exact absurd (fun j hj => hall j (by rw [← unhide HN]; exact hj)) (unhide HNO)

theorem pev_RS {U D : List Rat} (hu : ∀ j, j < U.length → RS U[j]! 1) (hd : ∀ j, j < D.length → RS D[j]! 1) (hl : U.length = D.length) (ok : OkP U D) : ∀ i, i ≤ U.length → RS (pev U D i) (2 * i + 1)
  | 0, _ => one_RS'
  | i + 1, h => by
    have ih := pev_RS hu hd hl ok i (by omega)
    exact (RS.div' (RS.mul ih (hu i (by omega))) (hd i (by omega)) (by have := (ok i (by omega)).2; omega)).mono (by omega)
theorem num_pos {q : Rat} (h : 0 < q.num) : 0 < q := by
  have h1 := Rat.num_nonneg.1 (Int.le_of_lt h)
  have h2 : q ≠ 0 := fun e => by rw [e] at h; exact absurd h (by decide)
  grind
theorem pev_nn {U D : List Rat} (ok : OkP U D) {i : Nat} (h : i ≤ U.length) : 0 ≤ pev U D i := Bth.pe_nn (N := U.length) (fun n hn => Rat.num_nonneg.1 (ok n hn).1) (fun n hn => num_pos (ok n hn).2) i h
/-- All of them together. -/
def pes (U D : List Rat) : Rat := Bth.ps (pev U D) (U.length + 1)
theorem pes_pos {U D : List Rat} (ok : OkP U D) : 0 < pes U D := Bth.one_pos (Bth.ps_ge (N := U.length + 1) rfl (fun n hn => pev_nn ok (by omega)) U.length (Nat.le_refl _))
/-- How likely each number is. -/
def stv (U D : List Rat) (i : Nat) : Rat := pev U D i / pes U D

set_option maxHeartbeats 4000000 in
set_option maxRecDepth 100000 in
set_option linter.unusedSimpArgs false in
theorem steady_any (vu vd : Value) (U D : List Rat) (w : World) (hU : LawIs w vu U) (hD : LawIs w vd D) (hn : U.length ≤ 25) (hl : U.length = D.length) (hu : ∀ j, j < U.length → RS U[j]! 1) (hd : ∀ j, j < D.length → RS D[j]! 1) (ok : OkP U D) :
    Calls Tryd.prog 7 #[vu, vd] w fun e w' => ∃ v, e = .returned (.tuple #[v, .nilIface]) ∧ LawIs w' v (row (stv U D) (U.length + 1)) ∧ Below w.heap.size w w' := by
  obtain ⟨a, c, rfl, h1, h2, h3⟩ := hU
  obtain ⟨a', c', rfl, h1', h2', h3'⟩ := hD
  have H3 := hide h3
  have H3' := hide h3'
  have HOK := hide ok
  have HU := hide hu
  have HD := hide hd
  have HLEN := hide hl
  have KKe : KK = 1099511627776 := rfl
  obtain ⟨N, hN⟩ : ∃ N, U.length = N := ⟨_, rfl⟩
  have hN' : D.length = N := by rw [← hl, hN]
  rw [hN] at h1 hn ⊢
  rw [hN'] at h1' ⊢
  have HN := hide hN
  have HN' := hide hN'
  have HMUL : Hid (∀ W v v' q q' (r : RatIs W v q) (r' : RatIs W v' q') (s : RS q 100) (s' : RS q' 100), Calls Tryd.prog 10 #[v, v'] W fun e w' => ∃ v, e = .returned v ∧ RatIs w' v (q * q') ∧ Below W.heap.size W w') := fun W v v' q q' h h' r r' => mulR_any v v' q q' W h h' 100 r r' (by rw [KKe]; omega)
  have HDIV : Hid (∀ W v v' q q' (r : RatIs W v q) (r' : RatIs W v' q') (s : RS q 100) (s' : RS q' 100) (z : q'.num ≠ 0), Calls Tryd.prog 23 #[v, v'] W fun e w' => ∃ v, e = .returned v ∧ RatIs w' v (q / q') ∧ Below W.heap.size W w') := fun W v v' q q' h h' r r' z => bdivided_any v v' q q' W h h' 100 r r' (by rw [KKe]; omega) z
  clear h3 h3' ok hl hN hN' hu hd
  have e1 : ¬ (100 : Int) < (N : Int) := by omega
  go_enter Tryd.func7, Tryd.ntmps7
  go_wp2_with fail
  go_loopw [21] (fun vi wr => ∃ i : Nat, vi = .int .i64 (i : Int) ∧ i ≤ N ∧ Below w.heap.size w wr ∧ ∀ j, j < i → 0 ≤ U[j]!.num ∧ 0 < D[j]!.num) (fun vi _ => N - (intOf vi).toNat)
  case atStart => exact ⟨0, rfl, Nat.zero_le _, Below.refl _ _, fun j h => absurd h (Nat.not_lt_zero _)⟩
  case round =>
    obtain ⟨i, rfl, hi, hb, hall⟩ := hrel
    by_cases hlt : i < N
    · obtain ⟨b, o, rfl, hblt, hcs⟩ := unhide H3 (by rw [unhide HN]; omega)
      obtain ⟨b', o', rfl, hblt', hcs'⟩ := unhide H3' (by rw [unhide HN']; omega)
      obtain ⟨xs, xp1, xp2, xn1, xd1, xn2, xd2, xk0, xk1, xk2, xr⟩ := hcs i (by rw [unhide HN]; exact hlt)
      obtain ⟨tx, rfl, rfl, rfl, rfl, rfl, rfl, rfl⟩ : ∃ t : Tri, xs = t.s ∧ xp1 = t.a1 ∧ xp2 = t.a2 ∧ xn1 = t.n1 ∧ xd1 = t.c1 ∧ xn2 = t.n2 ∧ xd2 = t.c2 := ⟨⟨xs, xp1, xp2, xn1, xd1, xn2, xd2⟩, rfl, rfl, rfl, rfl, rfl, rfl, rfl⟩
      obtain ⟨ys, yp1, yp2, yn1, yd1, yn2, yd2, yk0, yk1, yk2, yr⟩ := hcs' i (by rw [unhide HN']; exact hlt)
      obtain ⟨ty, rfl, rfl, rfl, rfl, rfl, rfl, rfl⟩ : ∃ t : Tri, ys = t.s ∧ yp1 = t.a1 ∧ yp2 = t.a2 ∧ yn1 = t.n1 ∧ yd1 = t.c1 ∧ yn2 = t.n2 ∧ yd2 = t.c2 := ⟨⟨ys, yp1, yp2, yn1, yd1, yn2, yd2⟩, rfl, rfl, rfl, rfl, rfl, rfl, rfl⟩
      rw [← hb.cell (p := ⟨b, o + i * 3, none⟩) hblt] at xk0
      rw [← hb.cell (p := ⟨b, o + i * 3 + 1, none⟩) hblt] at xk1
      rw [← hb.cell (p := ⟨b, o + i * 3 + 2, none⟩) hblt] at xk2
      rw [← hb.cell (p := ⟨b', o' + i * 3, none⟩) hblt'] at yk0
      rw [← hb.cell (p := ⟨b', o' + i * 3 + 1, none⟩) hblt'] at yk1
      rw [← hb.cell (p := ⟨b', o' + i * 3 + 2, none⟩) hblt'] at yk2
      have HXR := hide (xr.below hb)
      have HYR := hide (yr.below hb)
      have e2 : (i : Int) < (N : Int) := by omega
      have e3 : (0 : Int) ≤ (i : Int) := by omega
      have HB := hide hb
      have HALL := hide hall
      have HCY : Hid (∀ W, Below wr.heap.size wr W → (W.cell? ⟨b', o' + i * 3, none⟩ = some (.bool ty.s) ∧ W.cell? ⟨b', o' + i * 3 + 1, none⟩ = some (.slice ty.a1 ty.n1 ty.c1) ∧ W.cell? ⟨b', o' + i * 3 + 2, none⟩ = some (.slice ty.a2 ty.n2 ty.c2))) := fun W hW => by
        rw [hW.cell (p := ⟨b', o' + i * 3, none⟩) (Nat.lt_of_lt_of_le hblt' (unhide HB).size), hW.cell (p := ⟨b', o' + i * 3 + 1, none⟩) (Nat.lt_of_lt_of_le hblt' (unhide HB).size), hW.cell (p := ⟨b', o' + i * 3 + 2, none⟩) (Nat.lt_of_lt_of_le hblt' (unhide HB).size)]
        exact ⟨yk0, yk1, yk2⟩
      clear hb hall xr yr hcs hcs' yk0 yk1 yk2
      by_cases s1 : U[i]!.num < 0
      · have HSX : Hid (∀ W, Below wr.heap.size wr W → Calls Tryd.prog 16 #[.agg #[.bool tx.s, .slice tx.a1 tx.n1 tx.c1, .slice tx.a2 tx.n2 tx.c2]] W fun e w' => e = .returned (.int .i64 (-1)) ∧ Below W.heap.size W w') := fun W hW => by
          have h := sign_any tx.val U[i]! W ((unhide HXR).below hW)
          rw [Int.sign_eq_neg_one_of_neg s1] at h
          exact h
        exact absurd (unhide HOK i (by rw [unhide HN]; exact hlt)).1 (by omega)
      · by_cases s2 : 0 < D[i]!.num
        · have HSX : Hid (∀ W, Below wr.heap.size wr W → ∃ x : Int, 0 ≤ x ∧ x ≤ 1 ∧ Calls Tryd.prog 16 #[.agg #[.bool tx.s, .slice tx.a1 tx.n1 tx.c1, .slice tx.a2 tx.n2 tx.c2]] W fun e w' => e = .returned (.int .i64 x) ∧ Below W.heap.size W w') := fun W hW => ⟨U[i]!.num.sign, by have := Int.sign_nonneg_iff.2 (Int.not_lt.1 s1); exact this, (sign_bd _).2, sign_any tx.val U[i]! W ((unhide HXR).below hW)⟩
          have HSY : Hid (∀ W, Below wr.heap.size wr W → Calls Tryd.prog 16 #[.agg #[.bool ty.s, .slice ty.a1 ty.n1 ty.c1, .slice ty.a2 ty.n2 ty.c2]] W fun e w' => e = .returned (.int .i64 1) ∧ Below W.heap.size W w') := fun W hW => by
            have h := sign_any ty.val D[i]! W ((unhide HYR).below hW)
            rw [Int.sign_eq_one_of_pos s2] at h
            exact h
          have HNX : Hid (∀ j, j < i + 1 → 0 ≤ U[j]!.num ∧ 0 < D[j]!.num) := fun j hj => by
            rcases Nat.lt_or_ge j i with h | h
            · exact unhide HALL j h
            · obtain rfl : j = i := by omega
              exact ⟨Int.not_lt.1 s1, s2⟩
          obtain ⟨x, x0, x1, HX⟩ := unhide HSX wr (Below.refl _ _)
          have HXC := hide HX
          clear HX HSX
          go_wp2_with fail
          refine (unhide HXC).mono ?_
          rintro e w1 ⟨rfl, hb1⟩
          have ⟨yk0, yk1, yk2⟩ := unhide HCY _ hb1
          have HB1 := hide hb1
          clear hb1
          go_wp2_with fail
          refine (unhide HSY w1 (unhide HB1)).mono ?_
          rintro e w2 ⟨rfl, hb2⟩
          have HB2 := hide (below_step (below_step (unhide HB) (unhide HB1)) hb2)
          clear hb2 yk0 yk1 yk2
          go_wp2
          exact ⟨⟨i + 1, by go_num, hlt, unhide HB2, unhide HNX⟩, by simp [intOf]; omega⟩
        · have HSX : Hid (∀ W, Below wr.heap.size wr W → ∃ x : Int, 0 ≤ x ∧ x ≤ 1 ∧ Calls Tryd.prog 16 #[.agg #[.bool tx.s, .slice tx.a1 tx.n1 tx.c1, .slice tx.a2 tx.n2 tx.c2]] W fun e w' => e = .returned (.int .i64 x) ∧ Below W.heap.size W w') := fun W hW => ⟨U[i]!.num.sign, by have := Int.sign_nonneg_iff.2 (Int.not_lt.1 s1); exact this, (sign_bd _).2, sign_any tx.val U[i]! W ((unhide HXR).below hW)⟩
          have HSY : Hid (∀ W, Below wr.heap.size wr W → ∃ x : Int, -1 ≤ x ∧ x ≤ 0 ∧ Calls Tryd.prog 16 #[.agg #[.bool ty.s, .slice ty.a1 ty.n1 ty.c1, .slice ty.a2 ty.n2 ty.c2]] W fun e w' => e = .returned (.int .i64 x) ∧ Below W.heap.size W w') := fun W hW => ⟨D[i]!.num.sign, (sign_bd _).1, by have := (@Int.sign_nonpos_iff D[i]!.num).2 (Int.not_lt.1 s2); exact this, sign_any ty.val D[i]! W ((unhide HYR).below hW)⟩
          exact absurd (unhide HOK i (by rw [unhide HN]; exact hlt)).2 s2
    · obtain rfl : i = N := by omega
      have e2 : ¬ (i : Int) < (i : Int) := by omega
      have mk := make_ratios ((i : Int) + 1) (by omega) (by omega) wr
      rw [show ((i : Int) + 1).toNat = i + 1 by omega] at mk
      have S0 := SumsAt.start w wr (i + 1) hb
      rw [fill_zero (pev U D) (i + 1)] at S0
      obtain ⟨W1, hW1⟩ : ∃ W, wr.alloc (.cells (tcells (List.replicate (i + 1) zTri)).toArray 34) = W := ⟨_, rfl⟩
      obtain ⟨G, hG⟩ : ∃ G, wr.heap.size = G := ⟨_, rfl⟩
      rw [hW1, hG] at mk S0
      have e4 : (0 : Int) < (i : Int) + 1 := by omega
      have HS0 := hide S0
      clear S0 hb hall hW1 hG
      go_wp2_with fail
      clear mk
      refine (whole_any 1 (by decide) (by decide) _).mono ?_
      rintro e w1 ⟨v1, rfl, hv1, hb1⟩
      obtain ⟨t1, rfl, r1⟩ := tri_of hv1
      simp only [Tri.val]
      have S1 := (unhide HS0).keep hb1
      have CZ := S1.cells 0 (by rw [S1.len, fill_length]; omega)
      have FZ := S1.set 0 (by rw [S1.len, fill_length]; omega) t1 (pev U D 0) r1
      rw [fill_set (pev U D)] at FZ
      simp only [Nat.zero_mul, Nat.zero_add] at CZ FZ
      obtain ⟨⟨y0, y1, y2⟩, l0, l1, l2⟩ := CZ
      obtain ⟨W2, hW2⟩ : ∃ W, ((w1.setCell ⟨G, 0, none⟩ (.bool t1.s)).setCell ⟨G, 1, none⟩ (.slice t1.a1 t1.n1 t1.c1)).setCell ⟨G, 2, none⟩ (.slice t1.a2 t1.n2 t1.c2) = W := ⟨_, rfl⟩
      rw [hW2] at FZ
      have HS2 := hide FZ
      clear S1 FZ r1 hv1 hb1 HS0
      go_wp2_with fail
      clear hW2 y0 y1 y2 l0 l1 l2
      go_loopw [49] (fun vi wr => ∃ (k : Nat) (us : List Tri), vi = .int .i64 (k : Int) ∧ k ≤ i ∧ SumsAt w wr G us (fill (pev U D) (i + 1) (k + 1))) (fun vi _ => i - (intOf vi).toNat)
      case atStart => exact ⟨0, _, rfl, Nat.zero_le _, unhide HS2⟩
      case round =>
        obtain ⟨k, us, rfl, hk, S⟩ := hrel
        have hul : us.length = i + 1 := by rw [S.len, fill_length]
        clear HS2
        by_cases hlt : k < i
        · obtain ⟨b, o, rfl, hblt, hcs⟩ := unhide H3 (by rw [unhide HN]; omega)
          obtain ⟨b', o', rfl, hblt', hcs'⟩ := unhide H3' (by rw [unhide HN']; omega)
          obtain ⟨xs, xp1, xp2, xn1, xd1, xn2, xd2, xk0, xk1, xk2, xr⟩ := hcs k (by rw [unhide HN]; exact hlt)
          obtain ⟨tx, rfl, rfl, rfl, rfl, rfl, rfl, rfl⟩ : ∃ t : Tri, xs = t.s ∧ xp1 = t.a1 ∧ xp2 = t.a2 ∧ xn1 = t.n1 ∧ xd1 = t.c1 ∧ xn2 = t.n2 ∧ xd2 = t.c2 := ⟨⟨xs, xp1, xp2, xn1, xd1, xn2, xd2⟩, rfl, rfl, rfl, rfl, rfl, rfl, rfl⟩
          obtain ⟨ys, yp1, yp2, yn1, yd1, yn2, yd2, yk0, yk1, yk2, yr⟩ := hcs' k (by rw [unhide HN']; exact hlt)
          obtain ⟨ty, rfl, rfl, rfl, rfl, rfl, rfl, rfl⟩ : ∃ t : Tri, ys = t.s ∧ yp1 = t.a1 ∧ yp2 = t.a2 ∧ yn1 = t.n1 ∧ yd1 = t.c1 ∧ yn2 = t.n2 ∧ yd2 = t.c2 := ⟨⟨ys, yp1, yp2, yn1, yd1, yn2, yd2⟩, rfl, rfl, rfl, rfl, rfl, rfl, rfl⟩
          obtain ⟨sk0, _⟩ := S.cells k (by omega)
          have rk := S.rat k (by omega)
          rw [fill_get (by omega) (by omega)] at rk
          obtain ⟨tp, htp⟩ : ∃ t, us[k]! = t := ⟨_, rfl⟩
          rw [htp] at sk0 rk
          have hGlt : G < wr.heap.size := (Array.getElem?_eq_some_iff.1 S.row).1
          have HS := hide S
          have HBL := hide S.bl
          have HCO : Hid (∀ W, Below w.heap.size w W → (W.cell? ⟨b, o + k * 3, none⟩ = some (.bool tx.s) ∧ W.cell? ⟨b, o + k * 3 + 1, none⟩ = some (.slice tx.a1 tx.n1 tx.c1) ∧ W.cell? ⟨b, o + k * 3 + 2, none⟩ = some (.slice tx.a2 tx.n2 tx.c2)) ∧ (W.cell? ⟨b', o' + k * 3, none⟩ = some (.bool ty.s) ∧ W.cell? ⟨b', o' + k * 3 + 1, none⟩ = some (.slice ty.a1 ty.n1 ty.c1) ∧ W.cell? ⟨b', o' + k * 3 + 2, none⟩ = some (.slice ty.a2 ty.n2 ty.c2))) := fun W bc => by
            rw [bc.cell (p := ⟨b, o + k * 3, none⟩) hblt, bc.cell (p := ⟨b, o + k * 3 + 1, none⟩) hblt, bc.cell (p := ⟨b, o + k * 3 + 2, none⟩) hblt, bc.cell (p := ⟨b', o' + k * 3, none⟩) hblt', bc.cell (p := ⟨b', o' + k * 3 + 1, none⟩) hblt', bc.cell (p := ⟨b', o' + k * 3 + 2, none⟩) hblt']
            exact ⟨⟨xk0, xk1, xk2⟩, yk0, yk1, yk2⟩
          have HCC : Hid (∀ W, Below wr.heap.size wr W → (fun w' : World => (w'.cell? ⟨G, k * 3, none⟩ = some (.bool tp.s) ∧ w'.cell? ⟨G, k * 3 + 1, none⟩ = some (.slice tp.a1 tp.n1 tp.c1) ∧ w'.cell? ⟨G, k * 3 + 2, none⟩ = some (.slice tp.a2 tp.n2 tp.c2)) ∧ (w'.cell? ⟨b, o + k * 3, none⟩ = some (.bool tx.s) ∧ w'.cell? ⟨b, o + k * 3 + 1, none⟩ = some (.slice tx.a1 tx.n1 tx.c1) ∧ w'.cell? ⟨b, o + k * 3 + 2, none⟩ = some (.slice tx.a2 tx.n2 tx.c2)) ∧ (w'.cell? ⟨b', o' + k * 3, none⟩ = some (.bool ty.s) ∧ w'.cell? ⟨b', o' + k * 3 + 1, none⟩ = some (.slice ty.a1 ty.n1 ty.c1) ∧ w'.cell? ⟨b', o' + k * 3 + 2, none⟩ = some (.slice ty.a2 ty.n2 ty.c2))) W) := fun W hW => by
            refine ⟨?_, unhide HCO W (below_step (unhide HBL) hW)⟩
            rw [hW.cell (p := ⟨G, k * 3, none⟩) hGlt, hW.cell (p := ⟨G, k * 3 + 1, none⟩) hGlt, hW.cell (p := ⟨G, k * 3 + 2, none⟩) hGlt]
            exact sk0
          have hxr := xr.below (unhide HBL)
          have hyr := yr.below (unhide HBL)
          have HRP := hide rk
          have HRX := hide hxr
          have HRY := hide hyr
          have rsp := (pev_RS (unhide HU) (unhide HD) (unhide HLEN) (unhide HOK) k (by rw [unhide HN]; omega)).mono (show 2 * k + 1 ≤ 51 by omega)
          have rsx := unhide HU k (by rw [unhide HN]; omega)
          have rsy := unhide HD k (by rw [unhide HN']; omega)
          have HSP := hide (rsp.mono (show 51 ≤ 100 by omega))
          have HSX := hide (rsx.mono (show 1 ≤ 100 by omega))
          have HSM := hide ((RS.mul rsp rsx).mono (show 51 + 1 ≤ 100 by omega))
          have HSY := hide (rsy.mono (show 1 ≤ 100 by omega))
          have HZ : Hid (D[k]!.num ≠ 0) := show _ ≠ _ by have := (unhide HOK k (by rw [unhide HN]; omega)).2; omega
          have HPN : Hid (pev U D k * U[k]! / D[k]! = pev U D (k + 1)) := rfl
          have j1 : (k : Int) < (i : Int) := by omega
          have j2 : (0 : Int) ≤ (k : Int) := by omega
          have j3 : (k : Int) < (i : Int) + 1 := by omega
          have j4 : (k : Int) + 1 < (i : Int) + 1 := by omega
          have j5 : (0 : Int) ≤ (k : Int) + 1 := by omega
          have j6 : IntKind.i64.wrap ((k : Int) + 1) = (k : Int) + 1 := by rw [IntKind.wrap_i64]; omega
          have j7 : ((k : Int) + 1).toNat = k + 1 := by omega
          clear S rk xr yr hxr hyr rsp rsx rsy sk0 xk0 xk1 xk2 yk0 yk1 yk2 hcs hcs'
          have HTP := hide htp
          clear htp
          go_wp2_with fail
          refine wp_region_hold (fun w' : World => (w'.cell? ⟨G, k * 3, none⟩ = some (.bool tp.s) ∧ w'.cell? ⟨G, k * 3 + 1, none⟩ = some (.slice tp.a1 tp.n1 tp.c1) ∧ w'.cell? ⟨G, k * 3 + 2, none⟩ = some (.slice tp.a2 tp.n2 tp.c2)) ∧ (w'.cell? ⟨b, o + k * 3, none⟩ = some (.bool tx.s) ∧ w'.cell? ⟨b, o + k * 3 + 1, none⟩ = some (.slice tx.a1 tx.n1 tx.c1) ∧ w'.cell? ⟨b, o + k * 3 + 2, none⟩ = some (.slice tx.a2 tx.n2 tx.c2)) ∧ (w'.cell? ⟨b', o' + k * 3, none⟩ = some (.bool ty.s) ∧ w'.cell? ⟨b', o' + k * 3 + 1, none⟩ = some (.slice ty.a1 ty.n1 ty.c1) ∧ w'.cell? ⟨b', o' + k * 3 + 2, none⟩ = some (.slice ty.a2 ty.n2 ty.c2))) (by kernel_rfl) ?_
          have bd0 : Below wr.heap.size wr wr.drew := (Below.refl _ _).drew
          have hC0 : (fun w' : World => (w'.cell? ⟨G, k * 3, none⟩ = some (.bool tp.s) ∧ w'.cell? ⟨G, k * 3 + 1, none⟩ = some (.slice tp.a1 tp.n1 tp.c1) ∧ w'.cell? ⟨G, k * 3 + 2, none⟩ = some (.slice tp.a2 tp.n2 tp.c2)) ∧ (w'.cell? ⟨b, o + k * 3, none⟩ = some (.bool tx.s) ∧ w'.cell? ⟨b, o + k * 3 + 1, none⟩ = some (.slice tx.a1 tx.n1 tx.c1) ∧ w'.cell? ⟨b, o + k * 3 + 2, none⟩ = some (.slice tx.a2 tx.n2 tx.c2)) ∧ (w'.cell? ⟨b', o' + k * 3, none⟩ = some (.bool ty.s) ∧ w'.cell? ⟨b', o' + k * 3 + 1, none⟩ = some (.slice ty.a1 ty.n1 ty.c1) ∧ w'.cell? ⟨b', o' + k * 3 + 2, none⟩ = some (.slice ty.a2 ty.n2 ty.c2))) wr.drew := unhide HCC _ bd0
          refine wpHold_take (i := 0) (v := ?_) rfl (by kernel_rfl) (by kernel_rfl) (by kernel_rfl) (fun _ _ _ h => h) (Or.inl ⟨by rfl, ?_⟩) hC0 ?_
          rotate_left
          · intro w hSw; clear hSw; go_simp; (try with_reducible rfl)
          (try simp only [List.getElem_toArray, List.getElem_cons_succ, List.getElem_cons_zero])
          (try simp only [Act.put, List.setIfInBounds_toArray, List.set_cons_zero, List.set_cons_succ])
          refine wpHold_take (i := 1) (v := ?_) rfl (by kernel_rfl) (by kernel_rfl) (by kernel_rfl) (fun _ _ _ h => h) (Or.inl ⟨by rfl, ?_⟩) hC0 ?_
          rotate_left
          · intro w hSw; clear hSw; go_simp; (try with_reducible rfl)
          (try simp only [List.getElem_toArray, List.getElem_cons_succ, List.getElem_cons_zero])
          (try simp only [Act.put, List.setIfInBounds_toArray, List.set_cons_zero, List.set_cons_succ])
          refine wpHold_take (i := 2) (v := ?_) rfl (by kernel_rfl) (by kernel_rfl) (by kernel_rfl) (fun _ _ _ h => h) (Or.inl ⟨by rfl, ?_⟩) hC0 ?_
          rotate_left
          · intro w hSw; clear hSw; go_simp; (try with_reducible rfl)
          (try simp only [List.getElem_toArray, List.getElem_cons_succ, List.getElem_cons_zero])
          (try simp only [Act.put, List.setIfInBounds_toArray, List.set_cons_zero, List.set_cons_succ])
          refine wpHold_take (i := 3) (v := ?_) rfl (by kernel_rfl) (by kernel_rfl) (by kernel_rfl) (fun _ _ _ h => h) (Or.inl ⟨by rfl, ?_⟩) hC0 ?_
          rotate_left
          · intro w hSw; clear hSw; go_simp; (try with_reducible rfl)
          (try simp only [List.getElem_toArray, List.getElem_cons_succ, List.getElem_cons_zero])
          (try simp only [Act.put, List.setIfInBounds_toArray, List.set_cons_zero, List.set_cons_succ])
          refine wpHold_take (i := 4) (v := ?_) rfl (by kernel_rfl) (by kernel_rfl) (by kernel_rfl) (fun _ _ _ h => h) (Or.inl ⟨by rfl, ?_⟩) hC0 ?_
          rotate_left
          · intro w hSw; clear hSw; go_simp; (try with_reducible rfl)
          (try simp only [List.getElem_toArray, List.getElem_cons_succ, List.getElem_cons_zero])
          (try simp only [Act.put, List.setIfInBounds_toArray, List.set_cons_zero, List.set_cons_succ])
          refine wpHold_take (i := 5) (v := ?_) rfl (by kernel_rfl) (by kernel_rfl) (by kernel_rfl) (fun _ _ _ h => h) (Or.inl ⟨by rfl, ?_⟩) hC0 ?_
          rotate_left
          · intro w hSw; clear hSw; go_simp; (try with_reducible rfl)
          (try simp only [List.getElem_toArray, List.getElem_cons_succ, List.getElem_cons_zero])
          (try simp only [Act.put, List.setIfInBounds_toArray, List.set_cons_zero, List.set_cons_succ])
          refine wpHold_take (i := 6) (v := ?_) rfl (by kernel_rfl) (by kernel_rfl) (by kernel_rfl) (fun _ _ _ h => h) (Or.inl ⟨by rfl, ?_⟩) hC0 ?_
          rotate_left
          · intro w hSw; (try dsimp only at hSw); obtain ⟨⟨z0, z1, z2⟩, ⟨z3, z4, z5⟩, z6, z7, z8⟩ := hSw; go_simp; (try with_reducible rfl)
          (try simp only [List.getElem_toArray, List.getElem_cons_succ, List.getElem_cons_zero])
          (try simp only [Act.put, List.setIfInBounds_toArray, List.set_cons_zero, List.set_cons_succ])
          refine wpHold_take (i := 7) (v := ?_) rfl (by kernel_rfl) (by kernel_rfl) (by kernel_rfl) (fun _ _ _ h => h) (Or.inl ⟨by rfl, ?_⟩) hC0 ?_
          rotate_left
          · intro w hSw; clear hSw; go_simp; (try with_reducible rfl)
          (try simp only [List.getElem_toArray, List.getElem_cons_succ, List.getElem_cons_zero])
          (try simp only [Act.put, List.setIfInBounds_toArray, List.set_cons_zero, List.set_cons_succ])
          refine wpHold_take (i := 8) (v := ?_) rfl (by kernel_rfl) (by kernel_rfl) (by kernel_rfl) (fun _ _ _ h => h) (Or.inl ⟨by rfl, ?_⟩) hC0 ?_
          rotate_left
          · intro w hSw; clear hSw; go_simp; (try with_reducible rfl)
          (try simp only [List.getElem_toArray, List.getElem_cons_succ, List.getElem_cons_zero])
          (try simp only [Act.put, List.setIfInBounds_toArray, List.set_cons_zero, List.set_cons_succ])
          refine wpHold_take (i := 9) (v := ?_) rfl (by kernel_rfl) (by kernel_rfl) (by kernel_rfl) (fun _ _ _ h => h) (Or.inl ⟨by rfl, ?_⟩) hC0 ?_
          rotate_left
          · intro w hSw; clear hSw; go_simp; (try with_reducible rfl)
          (try simp only [List.getElem_toArray, List.getElem_cons_succ, List.getElem_cons_zero])
          (try simp only [Act.put, List.setIfInBounds_toArray, List.set_cons_zero, List.set_cons_succ])
          refine wpHold_take (i := 10) (v := ?_) rfl (by kernel_rfl) (by kernel_rfl) (by kernel_rfl) (fun _ _ _ h => h) (Or.inl ⟨by rfl, ?_⟩) hC0 ?_
          rotate_left
          · intro w hSw; (try dsimp only at hSw); obtain ⟨⟨z0, z1, z2⟩, ⟨z3, z4, z5⟩, z6, z7, z8⟩ := hSw; go_simp; (try with_reducible rfl)
          (try simp only [List.getElem_toArray, List.getElem_cons_succ, List.getElem_cons_zero])
          (try simp only [Act.put, List.setIfInBounds_toArray, List.set_cons_zero, List.set_cons_succ])
          refine wpHold_take (i := 12) (v := ?_) rfl (by kernel_rfl) (by kernel_rfl) (by kernel_rfl) (fun _ _ _ h => h) (Or.inl ⟨by rfl, ?_⟩) hC0 ?_
          rotate_left
          · intro w hSw; clear hSw; go_simp; (try with_reducible rfl)
          (try simp only [List.getElem_toArray, List.getElem_cons_succ, List.getElem_cons_zero])
          (try simp only [Act.put, List.setIfInBounds_toArray, List.set_cons_zero, List.set_cons_succ])
          refine wpHold_take (i := 13) (v := ?_) rfl (by kernel_rfl) (by kernel_rfl) (by kernel_rfl) (fun _ _ _ h => h) (Or.inl ⟨by rfl, ?_⟩) hC0 ?_
          rotate_left
          · intro w hSw; clear hSw; go_simp; (try with_reducible rfl)
          (try simp only [List.getElem_toArray, List.getElem_cons_succ, List.getElem_cons_zero])
          (try simp only [Act.put, List.setIfInBounds_toArray, List.set_cons_zero, List.set_cons_succ])
          refine wpHold_take (i := 14) (v := ?_) rfl (by kernel_rfl) (by kernel_rfl) (by kernel_rfl) (fun _ _ _ h => h) (Or.inl ⟨by rfl, ?_⟩) hC0 ?_
          rotate_left
          · intro w hSw; clear hSw; go_simp; (try with_reducible rfl)
          (try simp only [List.getElem_toArray, List.getElem_cons_succ, List.getElem_cons_zero])
          (try simp only [Act.put, List.setIfInBounds_toArray, List.set_cons_zero, List.set_cons_succ])
          refine wpHold_take (i := 15) (v := ?_) rfl (by kernel_rfl) (by kernel_rfl) (by kernel_rfl) (fun _ _ _ h => h) (Or.inl ⟨by rfl, ?_⟩) hC0 ?_
          rotate_left
          · intro w hSw; (try dsimp only at hSw); obtain ⟨⟨z0, z1, z2⟩, ⟨z3, z4, z5⟩, z6, z7, z8⟩ := hSw; go_simp; (try with_reducible rfl)
          (try simp only [List.getElem_toArray, List.getElem_cons_succ, List.getElem_cons_zero])
          (try simp only [Act.put, List.setIfInBounds_toArray, List.set_cons_zero, List.set_cons_succ])
          refine wpHold_one (k := 11) (by kernel_rfl) rfl (fun K hK => ?_)
          (try simp only [List.getElem_toArray, List.getElem_cons_succ, List.getElem_cons_zero])
          go_simp
          refine (unhide HMUL _ _ _ _ _ ((unhide HRP).below bd0) ((unhide HRX).below bd0) (unhide HSP) (unhide HSX)).mono ?_
          rintro e xw_1 ⟨xv_1, rfl, hv_1, hb_1⟩
          have cc_1 := below_step bd0 hb_1
          have hC_1 : (fun w' : World => (w'.cell? ⟨G, k * 3, none⟩ = some (.bool tp.s) ∧ w'.cell? ⟨G, k * 3 + 1, none⟩ = some (.slice tp.a1 tp.n1 tp.c1) ∧ w'.cell? ⟨G, k * 3 + 2, none⟩ = some (.slice tp.a2 tp.n2 tp.c2)) ∧ (w'.cell? ⟨b, o + k * 3, none⟩ = some (.bool tx.s) ∧ w'.cell? ⟨b, o + k * 3 + 1, none⟩ = some (.slice tx.a1 tx.n1 tx.c1) ∧ w'.cell? ⟨b, o + k * 3 + 2, none⟩ = some (.slice tx.a2 tx.n2 tx.c2)) ∧ (w'.cell? ⟨b', o' + k * 3, none⟩ = some (.bool ty.s) ∧ w'.cell? ⟨b', o' + k * 3 + 1, none⟩ = some (.slice ty.a1 ty.n1 ty.c1) ∧ w'.cell? ⟨b', o' + k * 3 + 2, none⟩ = some (.slice ty.a2 ty.n2 ty.c2))) xw_1 := unhide HCC _ cc_1
          refine hK.out _ _ hC_1 ?_
          clear hK K
          (try simp only [Act.put, List.setIfInBounds_toArray, List.set_cons_zero, List.set_cons_succ])
          refine wpHold_one (k := 16) (by kernel_rfl) rfl (fun K hK => ?_)
          (try simp only [List.getElem_toArray, List.getElem_cons_succ, List.getElem_cons_zero])
          go_simp
          refine (unhide HDIV _ _ _ _ _ hv_1 ((unhide HRY).below cc_1) (unhide HSM) (unhide HSY) (unhide HZ)).mono ?_
          rintro e xw_2 ⟨xv_2, rfl, hv_2, hb_2⟩
          have cc_2 := below_step cc_1 hb_2
          have hC_2 : (fun w' : World => (w'.cell? ⟨G, k * 3, none⟩ = some (.bool tp.s) ∧ w'.cell? ⟨G, k * 3 + 1, none⟩ = some (.slice tp.a1 tp.n1 tp.c1) ∧ w'.cell? ⟨G, k * 3 + 2, none⟩ = some (.slice tp.a2 tp.n2 tp.c2)) ∧ (w'.cell? ⟨b, o + k * 3, none⟩ = some (.bool tx.s) ∧ w'.cell? ⟨b, o + k * 3 + 1, none⟩ = some (.slice tx.a1 tx.n1 tx.c1) ∧ w'.cell? ⟨b, o + k * 3 + 2, none⟩ = some (.slice tx.a2 tx.n2 tx.c2)) ∧ (w'.cell? ⟨b', o' + k * 3, none⟩ = some (.bool ty.s) ∧ w'.cell? ⟨b', o' + k * 3 + 1, none⟩ = some (.slice ty.a1 ty.n1 ty.c1) ∧ w'.cell? ⟨b', o' + k * 3 + 2, none⟩ = some (.slice ty.a2 ty.n2 ty.c2))) xw_2 := unhide HCC _ cc_2
          refine hK.out _ _ hC_2 ?_
          clear hK K
          (try simp only [Act.put, List.setIfInBounds_toArray, List.set_cons_zero, List.set_cons_succ])
          refine wpHold_take (i := 17) (v := ?_) rfl (by kernel_rfl) (by kernel_rfl) (by kernel_rfl) (fun _ _ _ h => h) (Or.inl ⟨by rfl, ?_⟩) hC_2 ?_
          rotate_left
          · intro w hSw; clear hSw; go_simp; (try with_reducible rfl)
          (try simp only [List.getElem_toArray, List.getElem_cons_succ, List.getElem_cons_zero])
          (try simp only [Act.put, List.setIfInBounds_toArray, List.set_cons_zero, List.set_cons_succ])
          rw [unhide HPN] at hv_2
          obtain ⟨ta, rfl, ra⟩ := tri_of hv_2
          simp only [Tri.val]
          have S2 := (unhide HS).keep cc_2
          have ⟨⟨y0, y1, y2⟩, l0, l1, l2⟩ := S2.cells (k + 1) (by omega)
          have FZ := S2.set (k + 1) (by omega) ta _ ra
          rw [fill_set (pev U D)] at FZ
          obtain ⟨Wz, hWz⟩ : ∃ W, ((xw_2.setCell ⟨G, (k + 1) * 3, none⟩ (.bool ta.s)).setCell ⟨G, (k + 1) * 3 + 1, none⟩ (.slice ta.a1 ta.n1 ta.c1)).setCell ⟨G, (k + 1) * 3 + 2, none⟩ (.slice ta.a2 ta.n2 ta.c2) = W := ⟨_, rfl⟩
          rw [hWz] at FZ
          have HFS := hide FZ
          have hCz : (fun w' : World => (w'.cell? ⟨G, k * 3, none⟩ = some (.bool tp.s) ∧ w'.cell? ⟨G, k * 3 + 1, none⟩ = some (.slice tp.a1 tp.n1 tp.c1) ∧ w'.cell? ⟨G, k * 3 + 2, none⟩ = some (.slice tp.a2 tp.n2 tp.c2)) ∧ (w'.cell? ⟨b, o + k * 3, none⟩ = some (.bool tx.s) ∧ w'.cell? ⟨b, o + k * 3 + 1, none⟩ = some (.slice tx.a1 tx.n1 tx.c1) ∧ w'.cell? ⟨b, o + k * 3 + 2, none⟩ = some (.slice tx.a2 tx.n2 tx.c2)) ∧ (w'.cell? ⟨b', o' + k * 3, none⟩ = some (.bool ty.s) ∧ w'.cell? ⟨b', o' + k * 3 + 1, none⟩ = some (.slice ty.a1 ty.n1 ty.c1) ∧ w'.cell? ⟨b', o' + k * 3 + 2, none⟩ = some (.slice ty.a2 ty.n2 ty.c2))) Wz := by
            refine ⟨?_, unhide HCO _ FZ.bl⟩
            have h := (FZ.cells k (by rw [List.length_set]; omega)).1
            have e : (us.set (k + 1) ta)[k]! = tp := by rw [← unhide HTP]; simp
            rw [e] at h
            exact h
          clear S2 FZ ra hb_1 hb_2 hv_1 hv_2
          refine wpHold_one (k := 18) (by kernel_rfl) rfl (fun K hK => ?_)
          (try simp only [List.getElem_toArray, List.getElem_cons_succ, List.getElem_cons_zero])
          go_simp
          refine hK.out _ _ hCz ?_
          clear hK K
          (try simp only [Act.put, List.setIfInBounds_toArray, List.set_cons_zero, List.set_cons_succ])
          refine wpHold_done (by kernel_rfl) ?_ _
          clear hCz l0 l1 l2 y0 y1 y2 hWz hC0
          go_wp2_with fail
          exact ⟨⟨k + 1, us.set (k + 1) ta, by go_num, by omega, unhide HFS⟩, by simp [intOf]; omega⟩
        · obtain rfl : k = i := by omega
          have j1 : ¬ (k : Int) < (k : Int) := by omega
          have LW := S.law (by omega)
          rw [hul] at LW
          have LW' : LawIs wr (.slice (some ⟨G, 0, none⟩) (k + 1) (k + 1)) (row (pev U D) (k + 1)) := LW
          have rsr : ∀ j, j < (row (pev U D) (k + 1)).length → RS (row (pev U D) (k + 1))[j]! 51 := fun j hj => by
            rw [row_length] at hj
            rw [row_get hj]
            exact (pev_RS (unhide HU) (unhide HD) (unhide HLEN) (unhide HOK) j (by rw [unhide HN]; omega)).mono (by omega)
          have HSU := hide (sumR_any _ _ 51 wr LW' rsr (by rw [row_length, KKe]; omega))
          have epes : qsum (row (pev U D) (k + 1)) (row (pev U D) (k + 1)).length = pes U D := by
            rw [row_length, qsum_row _ _ _ (Nat.le_refl _)]; unfold pes; rw [unhide HN]
          have rspes : RS (pes U D) 1500 := by
            rw [← epes]
            exact (qsum_RS rsr _ (Nat.le_refl _)).mono (by rw [row_length]; omega)
          rw [epes] at HSU
          have zpes : (pes U D).num ≠ 0 := fun h => by
            have := pes_pos (unhide HOK)
            rw [Rat.num_eq_zero.1 h] at this
            exact absurd this (by decide)
          have HSH : Hid (∀ W v, RatIs W v (pes U D) → Below wr.heap.size wr W → Calls Tryd.prog 24 #[.slice (some ⟨G, 0, none⟩) (k + 1) (k + 1), v] W fun e w' => ∃ v, e = .returned v ∧ LawIs w' v (row (stv U D) (k + 1)) ∧ Below W.heap.size W w') := fun W v hv hW => by
            have h := shares_any _ v _ (pes U D) 1500 W (LW'.below hW) hv (fun j hj => (rsr j hj).mono (by omega)) rspes (by rw [KKe]; omega) zpes (by rw [row_length]; omega)
            rw [row_length] at h
            rw [show row (stv U D) (k + 1) = row (shr (row (pev U D) (k + 1)) (pes U D)) (k + 1) from row_congr (fun j hj => by unfold shr stv; rw [row_get hj])]
            exact h
          have HB := hide S.bl
          clear S LW LW' rsr epes rspes zpes
          go_wp2_with fail
          refine (unhide HSU).mono ?_
          rintro e w3 ⟨v3, rfl, hv3, hb3⟩
          have HSH3 := hide (unhide HSH w3 v3 hv3 hb3)
          have HB3 := hide (below_step (unhide HB) hb3)
          obtain ⟨t3, rfl, _⟩ := tri_of hv3
          clear hb3 hv3 HSU HSH HB
          simp only [Tri.val] at HSH3 ⊢
          go_wp2_with fail
          refine (unhide HSH3).mono ?_
          rintro e w4 ⟨v4, rfl, hv4, hb4⟩
          have HB4 := hide (below_step (unhide HB3) hb4)
          have HV4 := hide hv4
          obtain ⟨a4, c4, rfl, _⟩ := hv4
          clear hb4 HSH3 HB3
          go_wp2
          go_ret2
          exact ⟨_, rfl, unhide HV4, unhide HB4⟩
end Go.Proofs.YtigilnkcjblhcaaDoor
