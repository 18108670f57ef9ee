/- Nets: Sums. -/
import Derived.Test.YtdaejkngmckmdaaGreatDoorN15
namespace Go.Proofs.YtdaejkngmckmdaaGreatDoor
open Go.RowKit Go.Sort Go.Shelf

/-- How great Buzen's sums may be. -/
def rBn (f : Nat → Nat) (D : Nat) : Nat → Nat
  | 0 => 1
  | n + 1 => f (n + 1) + D + rBn f D n + 1
def rB (D : Nat) : Nat → Nat → Nat
  | 0 => fun _ => 1
  | p + 1 => rBn (rB D p) D
theorem bz_RS {d : Nat → Rat} {D N : Nat} (h : ∀ i, i < N → RS (d i) D) : ∀ p n, p ≤ N → RS (Net.bz d p n) (rB D p n)
  | 0, 0, _ => by rw [Net.bz]; exact one_RS'
  | 0, n + 1, _ => by rw [Net.bz]; exact RS.zero
  | p + 1, 0, _ => by rw [Net.bz]; exact one_RS'
  | p + 1, n + 1, hp => by
    rw [Net.bz_next]
    exact RS.mono ((bz_RS h p (n + 1) (by omega)).add ((h p (by omega)).mul (bz_RS h (p + 1) n hp))) (by show _ ≤ rB D p (n + 1) + D + rB D (p + 1) n + 1; omega)
theorem rB_small : ∀ p, p < 6 → ∀ n, n < 8 → rB (XB + 1) p n ≤ 4000000000 := by decide
theorem bz_small {d : Nat → Rat} {N : Nat} (h : ∀ i, i < N → RS (d i) (XB + 1)) (hN : N ≤ 5) {p n : Nat} (hp : p ≤ N) (hn : n ≤ 7) : RS (Net.bz d p n) 4000000000 := (bz_RS h p n hp).mono (rB_small p (by omega) n (by omega))
/-- The sums while one place more is counted in. -/
def mixb (d : Nat → Rat) (k j i : Nat) : Rat := if i ≤ j then Net.bz d (k + 1) i else Net.bz d k i
theorem mixb_zero (d : Nat → Rat) (k N : Nat) : row (Net.bz d k) N = row (mixb d k 0) N := row_congr (fun i _ => by
  unfold mixb
  by_cases e : i ≤ 0
  · obtain rfl : i = 0 := by omega
    rw [if_pos e, Net.bz_none, Net.bz_none]
  · rw [if_neg e])
theorem mixb_next (d : Nat → Rat) (k j N : Nat) : (row (mixb d k j) N).set (j + 1) (Net.bz d k (j + 1) + d k * Net.bz d (k + 1) j) = row (mixb d k (j + 1)) N := by
  refine row_eq (by rw [List.length_set, row_length]) (fun i hi => ?_)
  by_cases e : j + 1 = i
  · subst e
    have g : ((row (mixb d k j) N).set (j + 1) (Net.bz d k (j + 1) + d k * Net.bz d (k + 1) j))[j + 1]! = Net.bz d k (j + 1) + d k * Net.bz d (k + 1) j := by simp [row_length, hi]
    rw [g]
    unfold mixb
    rw [if_pos (Nat.le_refl _), Net.bz_next]
  · have g : ((row (mixb d k j) N).set (j + 1) (Net.bz d k (j + 1) + d k * Net.bz d (k + 1) j))[i]! = (row (mixb d k j) N)[i]! := by simp [e]
    rw [g, row_get hi]
    unfold mixb
    by_cases e2 : i ≤ j
    · rw [if_pos e2, if_pos (by omega)]
    · rw [if_neg e2, if_neg (by omega)]
theorem mixb_all (d : Nat → Rat) (k P : Nat) : row (mixb d k P) (P + 1) = row (Net.bz d (k + 1)) (P + 1) := row_congr (fun i hi => by unfold mixb; rw [if_pos (by omega)])
theorem bz_first (d : Nat → Rat) (P : Nat) : (List.replicate (P + 1) (0 : Rat)).set 0 ((1 : Int) : Rat) = row (Net.bz d 0) (P + 1) := row_eq (by simp) (fun i hi => by
  cases i with
  | zero => simp [Net.bz]
  | succ j =>
    have e : Net.bz d 0 (j + 1) = 0 := by rw [Net.bz]
    have hj : j < P := by omega
    rw [e]
    simp [hj])

set_option maxHeartbeats 8000000 in
set_option maxRecDepth 100000 in
set_option linter.unusedSimpArgs false in
theorem sums_any (v : Value) (d : Nat → Rat) (n P : Nat) (w : World) (h : LawIs w v (row d n)) (hn0 : 0 < n) (hn5 : n ≤ 5) (hP : P ≤ 7) (hd : ∀ i, i < n → 0 ≤ d i) (hR : ∀ i, i < n → RS (d i) (XB + 1)) :
    Calls Tryz.prog 20 #[v, .int .i64 (P : Int)] w fun e w' => ∃ v, e = .returned (.tuple #[v, .nilIface]) ∧ LawIs w' v (row (Net.bz d n) (P + 1)) ∧ Below w.heap.size w w' := by
  have KKe : KK = 1099511627776 := rfl
  have HV := hide h
  have HR := hide hR
  have HCK := hide (checkCrowd_any v (row d n) P w h (by omega) (by rw [row_length]; exact hn5) (by rw [row_length]; exact hn0))
  have HNN : Hid (NonNeg (row d n)) := fun j hj => by
    rw [row_length] at hj
    rw [row_get hj]; exact hd j hj
  obtain ⟨a, c, rfl, h1, h2, h3⟩ := h
  rw [row_length] at h1 h3 HCK ⊢
  have H3 := hide h3
  clear h3 hd hR hn0
  go_enter Tryz.func20, Tryz.ntmps20
  go_wp2_with fail
  refine (unhide HCK).mono ?_
  rintro e w1 ⟨(⟨_, rfl⟩ | ⟨hx, k, rfl⟩), hb1⟩
  rotate_left
  · exact absurd (unhide HNN) hx
  have HB1 := hide hb1
  have qmk := make_ratios ((P : Int) + 1) (by omega) (by omega) w1
  rw [show ((P : Int) + 1).toNat = P + 1 by omega] at qmk
  have S0 := SumsAt.start w w1 (P + 1) hb1
  obtain ⟨W0, hW0⟩ : ∃ W, w1.alloc (.cells (tcells (List.replicate (P + 1) zTri)).toArray 39) = W := ⟨_, rfl⟩
  obtain ⟨G, hG⟩ : ∃ G, w1.heap.size = G := ⟨_, rfl⟩
  rw [hW0, hG] at qmk S0
  have HS0 := hide S0
  clear hb1 HCK S0
  go_wp2_with fail
  clear hW0 hG qmk
  refine (whole_any 1 (by decide) (by decide) W0).mono ?_
  rintro e w2 ⟨v2, rfl, hv2, hb2⟩
  obtain ⟨t2, rfl, ht2⟩ := tri_of hv2
  simp only [Tri.val]
  have S1 := (unhide HS0).keep hb2
  have ⟨⟨y0, y1, y2⟩, l0, l1, l2⟩ := S1.cells 0 (by simp)
  have FZ := S1.set 0 (by simp) t2 _ ht2
  rw [bz_first d P] at FZ
  simp only [Nat.zero_mul, Nat.zero_add] at y0 y1 y2 l0 l1 l2 FZ
  obtain ⟨W2, hW2⟩ : ∃ W, ((w2.setCell ⟨G, 0, none⟩ (.bool t2.s)).setCell ⟨G, 1, none⟩ (.slice t2.a1 t2.n1 t2.c1)).setCell ⟨G, 2, none⟩ (.slice t2.a2 t2.n2 t2.c2) = W := ⟨_, rfl⟩
  rw [hW2] at FZ
  have HF0 := hide FZ
  clear hv2 ht2 hb2 S1 FZ HS0 HB1
  go_wp2_with fail
  clear y0 y1 y2 l0 l1 l2 hW2
  go_loopw [24] (fun vi wr => ∃ (k : Nat) (us : List Tri), vi = .int .i64 (k : Int) ∧ k ≤ n ∧ SumsAt w wr G us (row (Net.bz d k) (P + 1))) (fun vi _ => n - (intOf vi).toNat)
  case atStart => exact ⟨0, _, rfl, Nat.zero_le _, unhide HF0⟩
  case round =>
    obtain ⟨k, us, rfl, hk, hS⟩ := hrel
    clear HF0
    have HS := hide hS
    by_cases hlt : k < n
    · have e1 : (k : Int) < (n : Int) := by omega
      have e0 : (0 : Int) ≤ (k : Int) := by omega
      clear hS
      go_wp2_with fail
      go_loopw [28] (fun vi wr => ∃ (j : Nat) (us : List Tri), vi = .int .i64 (j : Int) ∧ j ≤ P ∧ SumsAt w wr G us (row (mixb d k j) (P + 1))) (fun vi _ => P - (intOf vi).toNat)
      case atStart => exact ⟨0, _, rfl, Nat.zero_le _, by rw [← mixb_zero]; exact unhide HS⟩
      case round =>
        obtain ⟨j, us, rfl, hj, hS⟩ := hrel
        clear HS
        have HS := hide hS
        have hul : us.length = P + 1 := by rw [hS.len, row_length]
        by_cases hlt2 : j < P
        · have ⟨⟨c0, c1, c2⟩, _⟩ := hS.cells (j + 1) (by omega)
          have ⟨⟨d0, d1, d2⟩, _⟩ := hS.cells j (by omega)
          have ra := hS.rat (j + 1) (by omega)
          have rb := hS.rat j (by omega)
          rw [row_get (by omega)] at ra rb
          have ea : mixb d k j (j + 1) = Net.bz d k (j + 1) := by unfold mixb; rw [if_neg (by omega)]
          have eb : mixb d k j j = Net.bz d (k + 1) j := by unfold mixb; rw [if_pos (Nat.le_refl _)]
          rw [ea] at ra
          rw [eb] at rb
          obtain ⟨ta, hta⟩ : ∃ t, us[j + 1]! = t := ⟨_, rfl⟩
          obtain ⟨tb, htb⟩ : ∃ t, us[j]! = t := ⟨_, rfl⟩
          rw [hta] at c0 c1 c2 ra
          rw [htb] at d0 d1 d2 rb
          obtain ⟨b, o, rfl, hblt, hcs⟩ := unhide H3 (by omega)
          obtain ⟨xs, xp1, xp2, xn1, xd1, xn2, xd2, xk0, xk1, xk2, xr⟩ := hcs k hlt
          obtain ⟨tx, rfl, rfl, rfl, rfl, rfl, rfl, rfl⟩ : ∃ t : Tri, xs = t.s ∧ xp1 = t.a1 ∧ xp2 = t.a2 ∧ xn1 = t.n1 ∧ xd1 = t.c1 ∧ xn2 = t.n2 ∧ xd2 = t.c2 := ⟨⟨xs, xp1, xp2, xn1, xd1, xn2, xd2⟩, rfl, rfl, rfl, rfl, rfl, rfl, rfl⟩
          rw [row_get hlt] at xr
          have hGl : G < wr.heap.size := (Array.getElem?_eq_some_iff.1 hS.row).1
          have HBL := hide hS.bl
          have HRX := hide (xr.below hS.bl)
          have HRA := hide ra
          have HRB := hide rb
          have HCC : Hid (∀ W, Below wr.heap.size wr W → (fun w' : World => (w'.cell? ⟨G, (j + 1) * 3, none⟩ = some (.bool ta.s) ∧ w'.cell? ⟨G, (j + 1) * 3 + 1, none⟩ = some (.slice ta.a1 ta.n1 ta.c1) ∧ w'.cell? ⟨G, (j + 1) * 3 + 2, none⟩ = some (.slice ta.a2 ta.n2 ta.c2)) ∧ (w'.cell? ⟨b, o + k * 3, none⟩ = some (.bool tx.s) ∧ w'.cell? ⟨b, o + k * 3 + 1, none⟩ = some (.slice tx.a1 tx.n1 tx.c1) ∧ w'.cell? ⟨b, o + k * 3 + 2, none⟩ = some (.slice tx.a2 tx.n2 tx.c2)) ∧ (w'.cell? ⟨G, j * 3, none⟩ = some (.bool tb.s) ∧ w'.cell? ⟨G, j * 3 + 1, none⟩ = some (.slice tb.a1 tb.n1 tb.c1) ∧ w'.cell? ⟨G, j * 3 + 2, none⟩ = some (.slice tb.a2 tb.n2 tb.c2))) W) := fun W hW => by
            have bc := below_step (unhide HBL) hW
            refine ⟨?_, ?_, ?_⟩
            · rw [hW.cell (p := ⟨G, (j + 1) * 3, none⟩) hGl, hW.cell (p := ⟨G, (j + 1) * 3 + 1, none⟩) hGl, hW.cell (p := ⟨G, (j + 1) * 3 + 2, none⟩) hGl]; exact ⟨c0, c1, c2⟩
            · rw [bc.cell (p := ⟨b, o + k * 3, none⟩) hblt, bc.cell (p := ⟨b, o + k * 3 + 1, none⟩) hblt, bc.cell (p := ⟨b, o + k * 3 + 2, none⟩) hblt]; exact ⟨xk0, xk1, xk2⟩
            · rw [hW.cell (p := ⟨G, j * 3, none⟩) hGl, hW.cell (p := ⟨G, j * 3 + 1, none⟩) hGl, hW.cell (p := ⟨G, j * 3 + 2, none⟩) hGl]; exact ⟨d0, d1, d2⟩
          have HMU : Hid (∀ W, Below wr.heap.size wr W → Calls Tryz.prog 15 #[.agg #[.bool tx.s, .slice tx.a1 tx.n1 tx.c1, .slice tx.a2 tx.n2 tx.c2], .agg #[.bool tb.s, .slice tb.a1 tb.n1 tb.c1, .slice tb.a2 tb.n2 tb.c2]] W fun e w' => ∃ v, e = .returned v ∧ RatIs w' v (d k * Net.bz d (k + 1) j) ∧ Below W.heap.size W w') := fun W hW => mulR_any tx.val tb.val _ _ W ((unhide HRX).below hW) ((unhide HRB).below hW) 4000000000 ((unhide HR k hlt).mono (by decide)) (bz_small (unhide HR) hn5 (by omega) (by omega)) (by rw [KKe]; omega)
          have HAD : Hid (∀ W v, Below wr.heap.size wr W → RatIs W v (d k * Net.bz d (k + 1) j) → Calls Tryz.prog 14 #[.agg #[.bool ta.s, .slice ta.a1 ta.n1 ta.c1, .slice ta.a2 ta.n2 ta.c2], v] W fun e w' => ∃ v, e = .returned v ∧ RatIs w' v (Net.bz d k (j + 1) + d k * Net.bz d (k + 1) j) ∧ Below W.heap.size W w') := fun W v hW hv => addR_any ta.val v _ _ W ((unhide HRA).below hW) hv 5000000000 ((bz_small (unhide HR) hn5 (by omega) (by omega)).mono (by omega)) (((unhide HR k hlt).mul (bz_small (unhide HR) hn5 (by omega) (by omega))).mono (by decide)) (by rw [KKe]; omega)
          have e2 : (j : Int) < (P : Int) := by omega
          have e3 : (0 : Int) ≤ (j : Int) := by omega
          have e4 : (j : Int) + 1 < (P : Int) + 1 := by omega
          have e5 : (j : Int) < (P : Int) + 1 := by omega
          have e6 : ((j : Int) + 1).toNat = j + 1 := by omega
          have e7 : IntKind.i64.wrap ((j : Int) + 1) = (j : Int) + 1 := by rw [IntKind.wrap_i64]; omega
          have e8 : (0 : Int) ≤ (j : Int) + 1 := by omega
          clear hS ra rb hta htb c0 c1 c2 d0 d1 d2 hcs xr xk0 xk1 xk2 ea eb hGl
          go_wp2_with fail
          refine wp_region_till (fun w' : World => (w'.cell? ⟨G, (j + 1) * 3, none⟩ = some (.bool ta.s) ∧ w'.cell? ⟨G, (j + 1) * 3 + 1, none⟩ = some (.slice ta.a1 ta.n1 ta.c1) ∧ w'.cell? ⟨G, (j + 1) * 3 + 2, none⟩ = some (.slice ta.a2 ta.n2 ta.c2)) ∧ (w'.cell? ⟨b, o + k * 3, none⟩ = some (.bool tx.s) ∧ w'.cell? ⟨b, o + k * 3 + 1, none⟩ = some (.slice tx.a1 tx.n1 tx.c1) ∧ w'.cell? ⟨b, o + k * 3 + 2, none⟩ = some (.slice tx.a2 tx.n2 tx.c2)) ∧ (w'.cell? ⟨G, j * 3, none⟩ = some (.bool tb.s) ∧ w'.cell? ⟨G, j * 3 + 1, none⟩ = some (.slice tb.a1 tb.n1 tb.c1) ∧ w'.cell? ⟨G, j * 3 + 2, none⟩ = some (.slice tb.a2 tb.n2 tb.c2))) 19 (by kernel_rfl) ?_
          have bd0 : Below wr.heap.size wr wr.drew := (Below.refl _ _).drew
          have hC0 : (fun w' : World => (w'.cell? ⟨G, (j + 1) * 3, none⟩ = some (.bool ta.s) ∧ w'.cell? ⟨G, (j + 1) * 3 + 1, none⟩ = some (.slice ta.a1 ta.n1 ta.c1) ∧ w'.cell? ⟨G, (j + 1) * 3 + 2, none⟩ = some (.slice ta.a2 ta.n2 ta.c2)) ∧ (w'.cell? ⟨b, o + k * 3, none⟩ = some (.bool tx.s) ∧ w'.cell? ⟨b, o + k * 3 + 1, none⟩ = some (.slice tx.a1 tx.n1 tx.c1) ∧ w'.cell? ⟨b, o + k * 3 + 2, none⟩ = some (.slice tx.a2 tx.n2 tx.c2)) ∧ (w'.cell? ⟨G, j * 3, none⟩ = some (.bool tb.s) ∧ w'.cell? ⟨G, j * 3 + 1, none⟩ = some (.slice tb.a1 tb.n1 tb.c1) ∧ w'.cell? ⟨G, j * 3 + 2, none⟩ = some (.slice tb.a2 tb.n2 tb.c2))) wr.drew := unhide HCC _ bd0
          refine wpTill_pure (i := 0) (v := ?_) rfl (by kernel_rfl) (by kernel_rfl) (by kernel_rfl) (by kernel_rfl) (fun _ _ _ h => h) (Or.inl ⟨by rfl, ?_⟩) (fun _ => hC0) ?_
          rotate_left
          · intro w hSw; clear hSw; go_simp; (try with_reducible rfl)
          (try simp only [List.getElem_toArray, List.getElem_cons_succ, List.getElem_cons_zero])
          (try simp only [Act.put, List.setIfInBounds_toArray, List.set_cons_zero, List.set_cons_succ])
          refine wpTill_pure (i := 1) (v := ?_) rfl (by kernel_rfl) (by kernel_rfl) (by kernel_rfl) (by kernel_rfl) (fun _ _ _ h => h) (Or.inl ⟨by rfl, ?_⟩) (fun _ => hC0) ?_
          rotate_left
          · intro w hSw; clear hSw; go_simp; (try with_reducible rfl)
          (try simp only [List.getElem_toArray, List.getElem_cons_succ, List.getElem_cons_zero])
          (try simp only [Act.put, List.setIfInBounds_toArray, List.set_cons_zero, List.set_cons_succ])
          refine wpTill_pure (i := 2) (v := ?_) rfl (by kernel_rfl) (by kernel_rfl) (by kernel_rfl) (by kernel_rfl) (fun _ _ _ h => h) (Or.inl ⟨by rfl, ?_⟩) (fun _ => hC0) ?_
          rotate_left
          · intro w hSw; clear hSw; go_simp; (try with_reducible rfl)
          (try simp only [List.getElem_toArray, List.getElem_cons_succ, List.getElem_cons_zero])
          (try simp only [Act.put, List.setIfInBounds_toArray, List.set_cons_zero, List.set_cons_succ])
          refine wpTill_pure (i := 3) (v := ?_) rfl (by kernel_rfl) (by kernel_rfl) (by kernel_rfl) (by kernel_rfl) (fun _ _ _ h => h) (Or.inl ⟨by rfl, ?_⟩) (fun _ => hC0) ?_
          rotate_left
          · intro w hSw; clear hSw; go_simp; (try with_reducible rfl)
          (try simp only [List.getElem_toArray, List.getElem_cons_succ, List.getElem_cons_zero])
          (try simp only [Act.put, List.setIfInBounds_toArray, List.set_cons_zero, List.set_cons_succ])
          refine wpTill_pure (i := 4) (v := ?_) rfl (by kernel_rfl) (by kernel_rfl) (by kernel_rfl) (by kernel_rfl) (fun _ _ _ h => h) (Or.inl ⟨by rfl, ?_⟩) (fun _ => hC0) ?_
          rotate_left
          · intro w hSw; clear hSw; go_simp; (try with_reducible rfl)
          (try simp only [List.getElem_toArray, List.getElem_cons_succ, List.getElem_cons_zero])
          (try simp only [Act.put, List.setIfInBounds_toArray, List.set_cons_zero, List.set_cons_succ])
          refine wpTill_pure (i := 5) (v := ?_) rfl (by kernel_rfl) (by kernel_rfl) (by kernel_rfl) (by kernel_rfl) (fun _ _ _ h => h) (Or.inl ⟨by rfl, ?_⟩) (fun _ => hC0) ?_
          rotate_left
          · intro w hSw; clear hSw; go_simp; (try with_reducible rfl)
          (try simp only [List.getElem_toArray, List.getElem_cons_succ, List.getElem_cons_zero])
          (try simp only [Act.put, List.setIfInBounds_toArray, List.set_cons_zero, List.set_cons_succ])
          refine wpTill_pure (i := 6) (v := ?_) rfl (by kernel_rfl) (by kernel_rfl) (by kernel_rfl) (by kernel_rfl) (fun _ _ _ h => h) (Or.inl ⟨by rfl, ?_⟩) (fun _ => hC0) ?_
          rotate_left
          · intro w hSw; clear hSw; go_simp; (try with_reducible rfl)
          (try simp only [List.getElem_toArray, List.getElem_cons_succ, List.getElem_cons_zero])
          (try simp only [Act.put, List.setIfInBounds_toArray, List.set_cons_zero, List.set_cons_succ])
          refine wpTill_take (i := 7) (v := ?_) rfl (by kernel_rfl) (by kernel_rfl) (by kernel_rfl) (by kernel_rfl) (by kernel_rfl) (by kernel_rfl) (fun _ _ _ h => h) (Or.inl ⟨by rfl, ?_⟩) hC0 ?_
          rotate_left
          · intro w hSw; (try dsimp only at hSw); obtain ⟨⟨z0, z1, z2⟩, ⟨z3, z4, z5⟩, z6, z7, z8⟩ := hSw; go_simp; (try with_reducible rfl)
          (try simp only [List.getElem_toArray, List.getElem_cons_succ, List.getElem_cons_zero])
          (try simp only [Act.put, List.setIfInBounds_toArray, List.set_cons_zero, List.set_cons_succ])
          refine wpTill_pure (i := 8) (v := ?_) rfl (by kernel_rfl) (by kernel_rfl) (by kernel_rfl) (by kernel_rfl) (fun _ _ _ h => h) (Or.inl ⟨by rfl, ?_⟩) (fun _ => hC0) ?_
          rotate_left
          · intro w hSw; clear hSw; go_simp; (try with_reducible rfl)
          (try simp only [List.getElem_toArray, List.getElem_cons_succ, List.getElem_cons_zero])
          (try simp only [Act.put, List.setIfInBounds_toArray, List.set_cons_zero, List.set_cons_succ])
          refine wpTill_pure (i := 9) (v := ?_) rfl (by kernel_rfl) (by kernel_rfl) (by kernel_rfl) (by kernel_rfl) (fun _ _ _ h => h) (Or.inl ⟨by rfl, ?_⟩) (fun _ => hC0) ?_
          rotate_left
          · intro w hSw; clear hSw; go_simp; (try with_reducible rfl)
          (try simp only [List.getElem_toArray, List.getElem_cons_succ, List.getElem_cons_zero])
          (try simp only [Act.put, List.setIfInBounds_toArray, List.set_cons_zero, List.set_cons_succ])
          refine wpTill_pure (i := 10) (v := ?_) rfl (by kernel_rfl) (by kernel_rfl) (by kernel_rfl) (by kernel_rfl) (fun _ _ _ h => h) (Or.inl ⟨by rfl, ?_⟩) (fun _ => hC0) ?_
          rotate_left
          · intro w hSw; clear hSw; go_simp; (try with_reducible rfl)
          (try simp only [List.getElem_toArray, List.getElem_cons_succ, List.getElem_cons_zero])
          (try simp only [Act.put, List.setIfInBounds_toArray, List.set_cons_zero, List.set_cons_succ])
          refine wpTill_take (i := 11) (v := ?_) rfl (by kernel_rfl) (by kernel_rfl) (by kernel_rfl) (by kernel_rfl) (by kernel_rfl) (by kernel_rfl) (fun _ _ _ h => h) (Or.inl ⟨by rfl, ?_⟩) hC0 ?_
          rotate_left
          · intro w hSw; (try dsimp only at hSw); obtain ⟨⟨z0, z1, z2⟩, ⟨z3, z4, z5⟩, z6, z7, z8⟩ := hSw; go_simp; (try with_reducible rfl)
          (try simp only [List.getElem_toArray, List.getElem_cons_succ, List.getElem_cons_zero])
          (try simp only [Act.put, List.setIfInBounds_toArray, List.set_cons_zero, List.set_cons_succ])
          refine wpTill_pure (i := 12) (v := ?_) rfl (by kernel_rfl) (by kernel_rfl) (by kernel_rfl) (by kernel_rfl) (fun _ _ _ h => h) (Or.inl ⟨by rfl, ?_⟩) (fun _ => hC0) ?_
          rotate_left
          · intro w hSw; clear hSw; go_simp; (try with_reducible rfl)
          (try simp only [List.getElem_toArray, List.getElem_cons_succ, List.getElem_cons_zero])
          (try simp only [Act.put, List.setIfInBounds_toArray, List.set_cons_zero, List.set_cons_succ])
          refine wpTill_pure (i := 13) (v := ?_) rfl (by kernel_rfl) (by kernel_rfl) (by kernel_rfl) (by kernel_rfl) (fun _ _ _ h => h) (Or.inl ⟨by rfl, ?_⟩) (fun _ => hC0) ?_
          rotate_left
          · intro w hSw; clear hSw; go_simp; (try with_reducible rfl)
          (try simp only [List.getElem_toArray, List.getElem_cons_succ, List.getElem_cons_zero])
          (try simp only [Act.put, List.setIfInBounds_toArray, List.set_cons_zero, List.set_cons_succ])
          refine wpTill_pure (i := 14) (v := ?_) rfl (by kernel_rfl) (by kernel_rfl) (by kernel_rfl) (by kernel_rfl) (fun _ _ _ h => h) (Or.inl ⟨by rfl, ?_⟩) (fun _ => hC0) ?_
          rotate_left
          · intro w hSw; clear hSw; go_simp; (try with_reducible rfl)
          (try simp only [List.getElem_toArray, List.getElem_cons_succ, List.getElem_cons_zero])
          (try simp only [Act.put, List.setIfInBounds_toArray, List.set_cons_zero, List.set_cons_succ])
          refine wpTill_take (i := 15) (v := ?_) rfl (by kernel_rfl) (by kernel_rfl) (by kernel_rfl) (by kernel_rfl) (by kernel_rfl) (by kernel_rfl) (fun _ _ _ h => h) (Or.inl ⟨by rfl, ?_⟩) hC0 ?_
          rotate_left
          · intro w hSw; (try dsimp only at hSw); obtain ⟨⟨z0, z1, z2⟩, ⟨z3, z4, z5⟩, z6, z7, z8⟩ := hSw; go_simp; (try with_reducible rfl)
          (try simp only [List.getElem_toArray, List.getElem_cons_succ, List.getElem_cons_zero])
          (try simp only [Act.put, List.setIfInBounds_toArray, List.set_cons_zero, List.set_cons_succ])
          refine wpTill_one (k := 16) (by kernel_rfl) rfl (fun K hK => ?_)
          (try simp only [List.getElem_toArray, List.getElem_cons_succ, List.getElem_cons_zero])
          go_simp
          refine (unhide HMU _ bd0).mono ?_
          rintro e xw_1 ⟨xv_1, rfl, hv_1, hb_1⟩
          have cc_1 := below_step bd0 hb_1
          have hC_1 : (fun w' : World => (w'.cell? ⟨G, (j + 1) * 3, none⟩ = some (.bool ta.s) ∧ w'.cell? ⟨G, (j + 1) * 3 + 1, none⟩ = some (.slice ta.a1 ta.n1 ta.c1) ∧ w'.cell? ⟨G, (j + 1) * 3 + 2, none⟩ = some (.slice ta.a2 ta.n2 ta.c2)) ∧ (w'.cell? ⟨b, o + k * 3, none⟩ = some (.bool tx.s) ∧ w'.cell? ⟨b, o + k * 3 + 1, none⟩ = some (.slice tx.a1 tx.n1 tx.c1) ∧ w'.cell? ⟨b, o + k * 3 + 2, none⟩ = some (.slice tx.a2 tx.n2 tx.c2)) ∧ (w'.cell? ⟨G, j * 3, none⟩ = some (.bool tb.s) ∧ w'.cell? ⟨G, j * 3 + 1, none⟩ = some (.slice tb.a1 tb.n1 tb.c1) ∧ w'.cell? ⟨G, j * 3 + 2, none⟩ = some (.slice tb.a2 tb.n2 tb.c2))) xw_1 := unhide HCC _ cc_1
          refine hK.out _ _ (fun _ => hC_1) ?_
          clear hK K
          (try simp only [Act.put, List.setIfInBounds_toArray, List.set_cons_zero, List.set_cons_succ])
          refine wpTill_one (k := 17) (by kernel_rfl) rfl (fun K hK => ?_)
          (try simp only [List.getElem_toArray, List.getElem_cons_succ, List.getElem_cons_zero])
          go_simp
          refine (unhide HAD _ _ cc_1 hv_1).mono ?_
          rintro e xw_2 ⟨xv_2, rfl, hv_2, hb_2⟩
          have cc_2 := below_step cc_1 hb_2
          have hC_2 : (fun w' : World => (w'.cell? ⟨G, (j + 1) * 3, none⟩ = some (.bool ta.s) ∧ w'.cell? ⟨G, (j + 1) * 3 + 1, none⟩ = some (.slice ta.a1 ta.n1 ta.c1) ∧ w'.cell? ⟨G, (j + 1) * 3 + 2, none⟩ = some (.slice ta.a2 ta.n2 ta.c2)) ∧ (w'.cell? ⟨b, o + k * 3, none⟩ = some (.bool tx.s) ∧ w'.cell? ⟨b, o + k * 3 + 1, none⟩ = some (.slice tx.a1 tx.n1 tx.c1) ∧ w'.cell? ⟨b, o + k * 3 + 2, none⟩ = some (.slice tx.a2 tx.n2 tx.c2)) ∧ (w'.cell? ⟨G, j * 3, none⟩ = some (.bool tb.s) ∧ w'.cell? ⟨G, j * 3 + 1, none⟩ = some (.slice tb.a1 tb.n1 tb.c1) ∧ w'.cell? ⟨G, j * 3 + 2, none⟩ = some (.slice tb.a2 tb.n2 tb.c2))) xw_2 := unhide HCC _ cc_2
          refine hK.out _ _ (fun _ => hC_2) ?_
          clear hK K
          (try simp only [Act.put, List.setIfInBounds_toArray, List.set_cons_zero, List.set_cons_succ])
          refine wpTill_pure (i := 18) (v := ?_) rfl (by kernel_rfl) (by kernel_rfl) (by kernel_rfl) (by kernel_rfl) (fun _ _ _ h => h) (Or.inl ⟨by rfl, ?_⟩) (fun _ => hC_2) ?_
          rotate_left
          · intro w hSw; clear hSw; go_simp; (try with_reducible rfl)
          (try simp only [List.getElem_toArray, List.getElem_cons_succ, List.getElem_cons_zero])
          (try simp only [Act.put, List.setIfInBounds_toArray, List.set_cons_zero, List.set_cons_succ])
          obtain ⟨tn, rfl, rn⟩ := tri_of hv_2
          simp only [Tri.val]
          have S8 := (unhide HS).keep cc_2
          have ⟨⟨y0, y1, y2⟩, l0, l1, l2⟩ := S8.cells (j + 1) (by omega)
          have FZ := S8.set (j + 1) (by omega) tn _ rn
          rw [mixb_next] at FZ
          obtain ⟨W9, hW9⟩ : ∃ W, ((xw_2.setCell ⟨G, (j + 1) * 3, none⟩ (.bool tn.s)).setCell ⟨G, (j + 1) * 3 + 1, none⟩ (.slice tn.a1 tn.n1 tn.c1)).setCell ⟨G, (j + 1) * 3 + 2, none⟩ (.slice tn.a2 tn.n2 tn.c2) = W := ⟨_, rfl⟩
          rw [hW9] at FZ
          have HFS := hide FZ
          clear S8 FZ rn hv_1 hb_1 hv_2 hb_2
          refine wpTill_one (k := 19) (by kernel_rfl) rfl (fun K hK => ?_)
          (try simp only [List.getElem_toArray, List.getElem_cons_succ, List.getElem_cons_zero])
          go_simp
          refine hK.out _ _ (fun h => absurd (h.symm.trans (by kernel_rfl)) Bool.false_ne_true) ?_
          clear hK K
          (try simp only [Act.put, List.setIfInBounds_toArray, List.set_cons_zero, List.set_cons_succ])
          refine wpTill_done (by kernel_rfl) ?_ _
          clear l0 l1 l2 y0 y1 y2 hW9 hC0 hC_1 cc_1 hC_2 cc_2 bd0 HCC HMU HAD HS HBL HRA HRB HRX
          go_wp2_with fail
          exact ⟨⟨j + 1, _, by go_num, hlt2, unhide HFS⟩, by simp [intOf]; omega⟩
        · obtain rfl : j = P := by omega
          have e2 : ¬ (j : Int) < (j : Int) := by omega
          rw [mixb_all] at hS
          have HS2 := hide hS
          clear hS HS
          go_wp2_with fail
          exact ⟨⟨k + 1, us, by go_num, hlt, unhide HS2⟩, by simp [intOf]; omega⟩
    · obtain rfl : n = k := by omega
      have e1 : ¬ (n : Int) < (n : Int) := by omega
      have hul : us.length = P + 1 := by rw [hS.len, row_length]
      have LW := hS.law (by omega)
      rw [hul] at LW
      have HLW := hide LW
      have HBB := hide hS.bl
      clear hS LW HS hul
      go_wp2
      go_ret2
      exact ⟨_, rfl, unhide HLW, unhide HBB⟩
end Go.Proofs.YtdaejkngmckmdaaGreatDoor
