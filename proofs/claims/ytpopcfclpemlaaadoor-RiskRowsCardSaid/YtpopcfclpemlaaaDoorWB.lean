/- chance.mean, raised; the mean of a power, of what is beyond. -/
import Derived.Test.YtpopcfclpemlaaaDoorA18
import Derived.Test.YtpopcfclpemlaaaDoorM8
import Derived.Test.YtpopcfclpemlaaaDoorA12
import Derived.Test.YtpopcfclpemlaaaDoorX1
namespace Go.Proofs.YtpopcfclpemlaaaDoor
open Go.RowKit Go.Sort Go.Shelf

theorem wsum_RS {qs : List Rat} {J : Nat} {F : Nat → Int} (h : ∀ j, j < qs.length → RS qs[j]! J) (hF : ∀ j, j < qs.length → I64 (F j)) (k : Nat) (hk : k ≤ qs.length) : RS (wsum qs F k) (k * (J + 2) + 1) := by
  induction k with
  | zero => exact RS.zero.mono (by omega)
  | succ k ih => exact ((ih (by omega)).add ((h k (by omega)).mul (whole_RS (hF k (by omega))))).mono (by rw [Nat.succ_mul]; omega)

set_option maxHeartbeats 8000000 in
set_option maxRecDepth 100000 in
set_option linter.unusedSimpArgs false in
theorem mean_any (v : Value) (qs : List Rat) (J : Nat) (fk : Nat) (pa : Addr) (F : Nat → Int) (w : World) (h : LawIs w v qs) (hq : ∀ j, j < qs.length → RS qs[j]! J) (hJ : 4 * (qs.length * (J + 2) + J + 10) ≤ KK) (hF : ∀ j, j < qs.length → I64 (F j)) (heg : ∀ args w, (callFunc fk args).run Tryd.prog w = .ok (.enter fk args) w)
    (hc : ∀ (j : Nat), j < qs.length → ∀ W, Below w.heap.size w W → Calls Tryd.prog fk #[.int .i64 (j : Int), .pointer (some pa)] W fun e w' => e = .returned (.int .i64 (F j)) ∧ Below W.heap.size W w') :
    Calls Tryd.prog 67 #[v, .func (.func fk) #[] #[.pointer (some pa)]] w fun e w' => ∃ v, e = .returned v ∧ RatIs w' v (wsum qs F qs.length) ∧ Below w.heap.size w w' := by
  have HL := hide h
  obtain ⟨a, c, rfl, h1, h2, h3⟩ := h
  have H3 := hide h3
  have HQ := hide hq
  have HF := hide hF
  have HC := hide hc
  clear h3 hq hF hc
  have hb0 : Below (w.alloc (.cells #[.bool false, .slice none 0 0, .slice none 0 0] 31)).heap.size (w.alloc (.cells #[.bool false, .slice none 0 0, .slice none 0 0] 31)) (w.alloc (.cells #[.bool false, .slice none 0 0, .slice none 0 0] 31)) := Below.refl _ _
  have HS0 := hide (BoxAt.start (t := zTri) hb0 (rat_zero _))
  obtain ⟨G, hG⟩ : ∃ G, (w.alloc (.cells #[.bool false, .slice none 0 0, .slice none 0 0] 31)).heap.size = G := ⟨_, rfl⟩
  have HG := hide hG
  have hG1 : w.heap.size + 1 = G := by rw [← hG, alloc_heap, Array.size_push]
  rw [hG] at HS0
  clear hb0 hG
  go_enter Tryd.func67, Tryd.ntmps67
  go_wp2_with fail
  go_loopw [10] (fun vi wr => ∃ (i : Nat) (t : Tri), vi = .int .i64 i ∧ i ≤ qs.length ∧ BoxAt w wr w.heap.size G (wsum qs F i) t) (fun vi _ => qs.length - (intOf vi).toNat)
  case atStart => exact ⟨0, zTri, rfl, Nat.zero_le _, unhide HS0⟩
  case round =>
    obtain ⟨i, t, rfl, hi, T⟩ := hrel
    clear HS0
    by_cases hlt : i < qs.length
    · obtain ⟨b, o, rfl, hblt, hcs⟩ := unhide H3 (by omega)
      obtain ⟨s', p1, p2, m1, d1, m2, d2, k0, k1, k2, r⟩ := hcs i hlt
      obtain ⟨tx, rfl, rfl, rfl, rfl, rfl, rfl, rfl⟩ : ∃ t : Tri, s' = t.s ∧ p1 = t.a1 ∧ p2 = t.a2 ∧ m1 = t.n1 ∧ d1 = t.c1 ∧ m2 = t.n2 ∧ d2 = t.c2 := ⟨⟨s', p1, p2, m1, d1, m2, d2⟩, rfl, rfl, rfl, rfl, rfl, rfl, rfl⟩
      rw [← T.bl.cell (p := ⟨b, o + i * 3, none⟩) hblt] at k0
      rw [← T.bl.cell (p := ⟨b, o + i * 3 + 1, none⟩) hblt] at k1
      rw [← T.bl.cell (p := ⟨b, o + i * 3 + 2, none⟩) hblt] at k2
      have rx : RatIs wr tx.val qs[i]! := r.below T.bl
      have T5 := T.keep (alloc_below wr (.cells #[.bool tx.s, .slice tx.a1 tx.n1 tx.c1, .slice tx.a2 tx.n2 tx.c2] 31))
      have X5 := BoxIs.new rx
      have hi0 : (0 : Int) ≤ (i : Int) := by omega
      have hi1 : (i : Int) < (qs.length : Int) := by omega
      obtain ⟨W5, hW5⟩ : ∃ W, wr.alloc (.cells #[.bool tx.s, .slice tx.a1 tx.n1 tx.c1, .slice tx.a2 tx.n2 tx.c2] 31) = W := ⟨_, rfl⟩
      obtain ⟨gx, hgx⟩ : ∃ g, wr.heap.size = g := ⟨_, rfl⟩
      rw [hW5] at T5 X5
      rw [hgx] at X5
      have HT5 := hide T5
      have HX5 := hide X5
      have bd0 : Below W5.heap.size W5 W5.drew := (Below.refl _ _).drew
      have HCC : Hid (∀ W, Below W5.heap.size W5 W → (fun w' : World => (w'.cell? ⟨G, 0, none⟩ = some (.bool t.s) ∧ w'.cell? ⟨G, 1, none⟩ = some (.slice t.a1 t.n1 t.c1) ∧ w'.cell? ⟨G, 2, none⟩ = some (.slice t.a2 t.n2 t.c2)) ∧ w'.cell? ⟨gx, 0, none⟩ = some (.bool tx.s) ∧ w'.cell? ⟨gx, 1, none⟩ = some (.slice tx.a1 tx.n1 tx.c1) ∧ w'.cell? ⟨gx, 2, none⟩ = some (.slice tx.a2 tx.n2 tx.c2)) W) := fun W hW => ⟨BoxIs.cells (q := wsum qs F i) ⟨T5.all, T5.rat⟩ W hW, X5.cells W hW⟩
      have HBW : Hid (∀ W, Below W5.heap.size W5 W → Below w.heap.size w W) := fun W hW => below_step T5.bl hW
      have rs1 := wsum_RS (unhide HQ) (unhide HF) i (by omega)
      have rs2 := unhide HQ i hlt
      have rs3 := whole_RS (unhide HF i hlt)
      have hmi := Nat.mul_le_mul_right (J + 2) hi
      have HR1 := hide (rs1.mono (show i * (J + 2) + 1 ≤ qs.length * (J + 2) + J + 5 by omega))
      have HR2 := hide (rs2.mono (show J ≤ qs.length * (J + 2) + J + 5 by omega))
      have HR3 := hide (rs3.mono (show 1 ≤ qs.length * (J + 2) + J + 5 by omega))
      have HR4 := hide ((rs2.mul rs3).mono (show J + 1 ≤ qs.length * (J + 2) + J + 5 by omega))
      have HIF := hide (unhide HF i hlt)
      have hJ2 : (qs.length * (J + 2) + J + 5) + (qs.length * (J + 2) + J + 5) + 1 ≤ KK := by omega
      have HJ2 := hide hJ2
      clear T T5 X5 r rx hcs rs1 rs2 rs3 hmi hJ2
      go_wp2_with fail
      clear hW5 hgx k0 k1 k2
      refine wp_region_till (fun w' : World => (w'.cell? ⟨G, 0, none⟩ = some (.bool t.s) ∧ w'.cell? ⟨G, 1, none⟩ = some (.slice t.a1 t.n1 t.c1) ∧ w'.cell? ⟨G, 2, none⟩ = some (.slice t.a2 t.n2 t.c2)) ∧ w'.cell? ⟨gx, 0, none⟩ = some (.bool tx.s) ∧ w'.cell? ⟨gx, 1, none⟩ = some (.slice tx.a1 tx.n1 tx.c1) ∧ w'.cell? ⟨gx, 2, none⟩ = some (.slice tx.a2 tx.n2 tx.c2)) 8 (by kernel_rfl) ?_
      have hC0 : (fun w' : World => (w'.cell? ⟨G, 0, none⟩ = some (.bool t.s) ∧ w'.cell? ⟨G, 1, none⟩ = some (.slice t.a1 t.n1 t.c1) ∧ w'.cell? ⟨G, 2, none⟩ = some (.slice t.a2 t.n2 t.c2)) ∧ w'.cell? ⟨gx, 0, none⟩ = some (.bool tx.s) ∧ w'.cell? ⟨gx, 1, none⟩ = some (.slice tx.a1 tx.n1 tx.c1) ∧ w'.cell? ⟨gx, 2, none⟩ = some (.slice tx.a2 tx.n2 tx.c2)) W5.drew := unhide HCC _ bd0
      refine wpTill_take (i := 0) (v := ?_) rfl (by kernel_rfl) (by kernel_rfl) (by kernel_rfl) (by kernel_rfl) (by kernel_rfl) (by kernel_rfl) (fun _ _ _ h => h) (Or.inl ⟨by rfl, ?_⟩) hC0 ?_
      rotate_left
      · intro w hSw; (try dsimp only at hSw); obtain ⟨⟨z0, z1, z2⟩, z3, z4, z5⟩ := hSw; go_simp; (try with_reducible rfl)
      (try simp only [List.getElem_toArray, List.getElem_cons_succ, List.getElem_cons_zero])
      (try simp only [Act.put, List.setIfInBounds_toArray, List.set_cons_zero, List.set_cons_succ])
      refine wpTill_take (i := 1) (v := ?_) rfl (by kernel_rfl) (by kernel_rfl) (by kernel_rfl) (by kernel_rfl) (by kernel_rfl) (by kernel_rfl) (fun _ _ _ h => h) (Or.inl ⟨by rfl, ?_⟩) hC0 ?_
      rotate_left
      · intro w hSw; (try dsimp only at hSw); obtain ⟨⟨z0, z1, z2⟩, z3, z4, z5⟩ := hSw; go_simp; (try with_reducible rfl)
      (try simp only [List.getElem_toArray, List.getElem_cons_succ, List.getElem_cons_zero])
      (try simp only [Act.put, List.setIfInBounds_toArray, List.set_cons_zero, List.set_cons_succ])
      refine wpTill_pure (i := 2) (v := ?_) rfl (by kernel_rfl) (by kernel_rfl) (by kernel_rfl) (by kernel_rfl) (fun _ _ _ h => h) (Or.inl ⟨by rfl, ?_⟩) (fun _ => hC0) ?_
      rotate_left
      · intro w hSw; clear hSw; go_simp; (try with_reducible rfl)
      (try simp only [List.getElem_toArray, List.getElem_cons_succ, List.getElem_cons_zero])
      (try simp only [Act.put, List.setIfInBounds_toArray, List.set_cons_zero, List.set_cons_succ])
      refine wpTill_pure (i := 3) (v := ?_) rfl (by kernel_rfl) (by kernel_rfl) (by kernel_rfl) (by kernel_rfl) (fun _ _ _ h => h) (Or.inl ⟨by rfl, ?_⟩) (fun _ => hC0) ?_
      rotate_left
      · intro w hSw; clear hSw; go_simp; (try with_reducible rfl)
      (try simp only [List.getElem_toArray, List.getElem_cons_succ, List.getElem_cons_zero])
      (try simp only [Act.put, List.setIfInBounds_toArray, List.set_cons_zero, List.set_cons_succ])
      refine wpTill_one (k := 4) (by kernel_rfl) rfl (fun K hK => ?_)
      (try simp only [List.getElem_toArray, List.getElem_cons_succ, List.getElem_cons_zero])
      go_simp
      refine (unhide HC i hlt _ (unhide HBW _ bd0)).mono ?_
      rintro e w6 ⟨rfl, hb6⟩
      have b6 := below_step bd0 hb6
      have hC6 : (fun w' : World => (w'.cell? ⟨G, 0, none⟩ = some (.bool t.s) ∧ w'.cell? ⟨G, 1, none⟩ = some (.slice t.a1 t.n1 t.c1) ∧ w'.cell? ⟨G, 2, none⟩ = some (.slice t.a2 t.n2 t.c2)) ∧ w'.cell? ⟨gx, 0, none⟩ = some (.bool tx.s) ∧ w'.cell? ⟨gx, 1, none⟩ = some (.slice tx.a1 tx.n1 tx.c1) ∧ w'.cell? ⟨gx, 2, none⟩ = some (.slice tx.a2 tx.n2 tx.c2)) w6 := unhide HCC _ b6
      refine hK.out _ _ (fun _ => hC6) ?_
      clear hK K
      (try simp only [Act.put, List.setIfInBounds_toArray, List.set_cons_zero, List.set_cons_succ])
      refine wpTill_one (k := 5) (by kernel_rfl) rfl (fun K hK => ?_)
      (try simp only [List.getElem_toArray, List.getElem_cons_succ, List.getElem_cons_zero])
      go_simp
      refine (whole_any (F i) (unhide HIF).1 (unhide HIF).2 w6).mono ?_
      rintro e w7 ⟨v7, rfl, hv7, hb7⟩
      have b7 := below_step b6 hb7
      have hC7 : (fun w' : World => (w'.cell? ⟨G, 0, none⟩ = some (.bool t.s) ∧ w'.cell? ⟨G, 1, none⟩ = some (.slice t.a1 t.n1 t.c1) ∧ w'.cell? ⟨G, 2, none⟩ = some (.slice t.a2 t.n2 t.c2)) ∧ w'.cell? ⟨gx, 0, none⟩ = some (.bool tx.s) ∧ w'.cell? ⟨gx, 1, none⟩ = some (.slice tx.a1 tx.n1 tx.c1) ∧ w'.cell? ⟨gx, 2, none⟩ = some (.slice tx.a2 tx.n2 tx.c2)) w7 := unhide HCC _ b7
      have HMU := hide (mulR_any _ _ _ _ w7 ((unhide HX5).2.below b7) hv7 _ (unhide HR2) (unhide HR3) (unhide HJ2))
      refine hK.out _ _ (fun _ => hC7) ?_
      clear hK K
      (try simp only [Act.put, List.setIfInBounds_toArray, List.set_cons_zero, List.set_cons_succ])
      refine wpTill_one (k := 6) (by kernel_rfl) rfl (fun K hK => ?_)
      (try simp only [List.getElem_toArray, List.getElem_cons_succ, List.getElem_cons_zero])
      go_simp
      refine (unhide HMU).mono ?_
      rintro e w8 ⟨v8, rfl, hv8, hb8⟩
      have b8 := below_step b7 hb8
      have hC8 : (fun w' : World => (w'.cell? ⟨G, 0, none⟩ = some (.bool t.s) ∧ w'.cell? ⟨G, 1, none⟩ = some (.slice t.a1 t.n1 t.c1) ∧ w'.cell? ⟨G, 2, none⟩ = some (.slice t.a2 t.n2 t.c2)) ∧ w'.cell? ⟨gx, 0, none⟩ = some (.bool tx.s) ∧ w'.cell? ⟨gx, 1, none⟩ = some (.slice tx.a1 tx.n1 tx.c1) ∧ w'.cell? ⟨gx, 2, none⟩ = some (.slice tx.a2 tx.n2 tx.c2)) w8 := unhide HCC _ b8
      have HAD := hide (addR_any _ _ _ _ w8 ((unhide HT5).rat.below b8) hv8 _ (unhide HR1) (unhide HR4) (unhide HJ2))
      refine hK.out _ _ (fun _ => hC8) ?_
      clear hK K
      (try simp only [Act.put, List.setIfInBounds_toArray, List.set_cons_zero, List.set_cons_succ])
      refine wpTill_one (k := 7) (by kernel_rfl) rfl (fun K hK => ?_)
      (try simp only [List.getElem_toArray, List.getElem_cons_succ, List.getElem_cons_zero])
      go_simp
      refine (unhide HAD).mono ?_
      rintro e w9 ⟨v9, rfl, hv9, hb9⟩
      have b9 := below_step b8 hb9
      have hC9 : (fun w' : World => (w'.cell? ⟨G, 0, none⟩ = some (.bool t.s) ∧ w'.cell? ⟨G, 1, none⟩ = some (.slice t.a1 t.n1 t.c1) ∧ w'.cell? ⟨G, 2, none⟩ = some (.slice t.a2 t.n2 t.c2)) ∧ w'.cell? ⟨gx, 0, none⟩ = some (.bool tx.s) ∧ w'.cell? ⟨gx, 1, none⟩ = some (.slice tx.a1 tx.n1 tx.c1) ∧ w'.cell? ⟨gx, 2, none⟩ = some (.slice tx.a2 tx.n2 tx.c2)) w9 := unhide HCC _ b9
      obtain ⟨t9, rfl, hr9⟩ := tri_of hv9
      have T9 := (unhide HT5).keep b9
      have FIN := hide (T9.set hr9)
      have ⟨_, _, _, l0, l1, l2⟩ := box_cell T9.all
      have ⟨⟨y0, y1, y2⟩, _⟩ := hC9
      simp only [Tri.val]
      clear T9 hv9 hr9 hv8 hv7
      refine hK.out _ _ (fun _ => hC9) ?_
      clear hK K
      (try simp only [Act.put, List.setIfInBounds_toArray, List.set_cons_zero, List.set_cons_succ])
      refine wpTill_one (k := 8) (by kernel_rfl) rfl (fun K hK => ?_)
      (try simp only [List.getElem_toArray, List.getElem_cons_succ, List.getElem_cons_zero])
      go_simp
      refine hK.out _ _ (fun h => absurd (h.symm.trans (by kernel_rfl)) Bool.false_ne_true) ?_
      clear hK K
      (try simp only [Act.put, List.setIfInBounds_toArray, List.set_cons_zero, List.set_cons_succ])
      refine wpTill_done (by kernel_rfl) ?_ _
      clear hC0 hC6 hC7 hC8 hC9 bd0 b6 b7 b8 b9 hb6 hb7 hb8 hb9 y0 y1 y2 l0 l1 l2
      go_wp2_with fail
      exact ⟨⟨i + 1, t9, by go_num, hlt, unhide FIN⟩, by simp [intOf]; omega⟩
    · obtain rfl : i = qs.length := by omega
      have hlt' : ¬ (qs.length : Int) < (qs.length : Int) := by omega
      have ⟨g0, g1, g2, f0, f1, f2⟩ := box_cell T.all
      have ⟨h0, h1', h2', l0, l1, l2⟩ := box_cell T.res
      have rb := rat_boxed (w0 := w) T.rat T.res T.bl (Nat.le_refl _) (.bool t.s) (.slice t.a1 t.n1 t.c1) (.slice t.a2 t.n2 t.c2)
      have RB := hide rb
      clear T rb H3 HQ
      go_wp2
      (try simp only [Exit.inBlock, Exit.then])
      have rb := unhide RB
      exact bodyPost_ret (v := .agg #[.bool t.s, .slice t.a1 t.n1 t.c1, .slice t.a2 t.n2 t.c2]) (by simp [results, Tryd.results67, go_sem, h0, h1', h2']) rfl ⟨_, rfl, rb.1, rb.2⟩
end Go.Proofs.YtpopcfclpemlaaaDoor
/- chance.raised, Moment and Over. -/
namespace Go.Proofs.YtpopcfclpemlaaaDoor
open Go.RowKit Go.Sort Go.Shelf

theorem pow_le100 {x i : Nat} (hx : x ≤ 100) (hi : i ≤ 4) : x ^ i ≤ 100000000 := by
  have h1 : x ^ i ≤ 100 ^ i := Nat.pow_le_pow_left hx i
  have h2 : 100 ^ i ≤ 100 ^ 4 := Nat.pow_le_pow_right (by decide) hi
  have h3 : (100 : Nat) ^ 4 = 100000000 := by decide
  omega

theorem raised_any (x p : Nat) (hx : x ≤ 100) (hp : p ≤ 4) (w : World) :
    Calls Tryd.prog 69 #[.int .i64 (x : Int), .int .i64 (p : Int)] w fun e w' => e = .returned (.int .i64 ((x ^ p : Nat) : Int)) ∧ w' = w := by
  obtain ⟨Z, hZ⟩ : ∃ Z, x ^ p = Z := ⟨_, rfl⟩
  rw [hZ]
  have HZ := hide hZ
  clear hZ
  go_enter Tryd.func69, Tryd.ntmps69
  go_wp2
  go_loop [5, 7] (fun vo vi => ∃ i : Nat, vi = .int .i64 (i : Int) ∧ i ≤ p ∧ vo = .int .i64 ((x ^ i : Nat) : Int)) (fun _ vi => p - (intOf vi).toNat)
  case atStart => exact ⟨0, rfl, Nat.zero_le _, rfl⟩
  case round =>
    obtain ⟨i, rfl, hi, rfl⟩ := hrel
    by_cases hlt : i < p
    · have hlt' : (i : Int) < (p : Int) := by omega
      have b1 := pow_le100 hx (show i ≤ 4 by omega)
      have b2 := pow_le100 hx (show i + 1 ≤ 4 by omega)
      have HS : Hid (x ^ (i + 1) = x ^ i * x) := Nat.pow_succ x i
      obtain ⟨X, hX⟩ : ∃ X, x ^ i = X := ⟨_, rfl⟩
      rw [hX] at b1 HS
      rw [unhide HS] at b2
      obtain ⟨Y, hY⟩ : ∃ Y, X * x = Y := ⟨_, rfl⟩
      have hYi : (X : Int) * (x : Int) = (Y : Int) := by rw [← hY, Int.natCast_mul]
      rw [hY] at b2 HS
      rw [hX]
      clear hX hY
      go_wp2
      exact ⟨⟨i + 1, by go_num, hlt, by rw [unhide HS]⟩, by simp [intOf]; omega⟩
    · obtain rfl : i = p := by omega
      have hlt' : ¬ (i : Int) < (i : Int) := by omega
      rw [unhide HZ]
      go_wp2
      go_ret
      exact ⟨rfl, rfl⟩

theorem moment1_any (x p : Nat) (pa : Addr) (hx : x ≤ 100) (hp : p ≤ 4) (w : World) (hc : w.cell? pa = some (.int .i64 (p : Int))) :
    Calls Tryd.prog 68 #[.int .i64 (x : Int), .pointer (some pa)] w fun e w' => e = .returned (.int .i64 ((x ^ p : Nat) : Int)) ∧ Below w.heap.size w w' := by
  have HR := hide (raised_any x p hx hp w)
  go_enter Tryd.func68, Tryd.ntmps68
  go_wp2_with fail
  refine (unhide HR).mono ?_
  rintro e w1 ⟨rfl, hw⟩
  obtain rfl := hw.symm
  go_wp2
  go_ret
  exact ⟨rfl, Below.refl _ _⟩

theorem pow_I64 {x p : Nat} (hx : x ≤ 100) (hp : p ≤ 4) : I64 ((x ^ p : Nat) : Int) := by
  have := pow_le100 hx hp
  exact ⟨by omega, by omega⟩
theorem over_I64 {x n : Nat} (hx : x ≤ 1000) : I64 (over n x) := by unfold over; exact ⟨by omega, by omega⟩

theorem egMoment (args : Array Value) (w : World) : (callFunc 68 args).run Tryd.prog w = .ok (.enter 68 args) w := by
  go_simp
def zAgg : Value := .agg #[.bool false, .slice none 0 0, .slice none 0 0]

theorem errV_zero : errV 0 = .nilIface := rfl
theorem errV_not {k : Int} (h : k ≠ 0) : errV k = .iface 92 (.int .i64 k) := by unfold errV; rw [if_neg h]

set_option maxHeartbeats 2000000 in
theorem moment_err (v : Value) (qs : List Rat) (J p : Nat) (w : World) (h : LawIs w v qs) (hq : ∀ j, j < qs.length → RS qs[j]! J) (hJ : (qs.length * (J + 1) + 1 + J) + (qs.length * (J + 1) + 1 + J) + 1 ≤ KK) (hc : chk qs ≠ 0) :
    Calls Tryd.prog 31 #[v, .int .i64 (p : Int)] w fun e w' => e = .returned (.tuple #[zAgg, errV (chk qs)]) ∧ Below w.heap.size w w' := by
  obtain ⟨hb0, hX, hI, hI2⟩ := intBox_parts w (p : Int)
  have HC := hide (check_any v qs J _ (h.below hb0) hq hJ)
  rw [errV_not hc] at HC ⊢
  generalize chk qs = k at *
  have HB0 := hide hb0
  have HX := hide hX
  obtain ⟨W0, hW0⟩ : ∃ W, (w.alloc (.cells #[.int .i64 (p : Int)] 3)).alloc (.cells #[.bool false, .slice none 0 0, .slice none 0 0] 31) = W := ⟨_, rfl⟩
  obtain ⟨gr, hgr⟩ : ∃ g, w.heap.size + 1 = g := ⟨_, rfl⟩
  have hle : w.heap.size ≤ gr := by omega
  have hW0' : intBox w (p : Int) = W0 := hW0
  rw [hW0'] at HC HB0 HX
  rw [hgr] at HX
  have HLE := hide hle
  clear h hq hJ hc hb0 hX hI hI2 hW0' hle
  go_enter Tryd.func31, Tryd.ntmps31
  go_wp2_with fail
  clear hW0 hgr
  refine (unhide HC).mono ?_
  rintro e w2 ⟨rfl, hb2⟩
  have X2 := (unhide HX).keep hb2
  have ⟨g0, g1, g2, f0, f1, f2⟩ := box_cell X2.1
  have BEL := hide ((((below_step (unhide HB0) hb2).setCell (p := ⟨gr, 0, none⟩) (unhide HLE) (.bool false)).setCell (p := ⟨gr, 1, none⟩) (unhide HLE) (.slice none 0 0)).setCell (p := ⟨gr, 2, none⟩) (unhide HLE) (.slice none 0 0))
  clear X2 hb2
  go_wp2
  exact bodyPost_ret (v := .tuple #[zAgg, .iface 92 (.int .i64 k)]) (by simp [results, Tryd.results31, go_sem, g0, g1, g2, zAgg]) rfl ⟨rfl, unhide BEL⟩

set_option maxHeartbeats 2000000 in
theorem moment_any (v : Value) (qs : List Rat) (J p : Nat) (w : World) (h : LawIs w v qs) (hq : ∀ j, j < qs.length → RS qs[j]! J) (hJ : 4 * (qs.length * (J + 2) + J + 10) ≤ KK) (hc : chk qs = 0) (hp : p ≤ 4) :
    Calls Tryd.prog 31 #[v, .int .i64 (p : Int)] w fun e w' => ∃ v, e = .returned (.tuple #[v, .nilIface]) ∧ RatIs w' v (wsum qs (fun j => ((j ^ p : Nat) : Int)) qs.length) ∧ Below w.heap.size w w' := by
  obtain ⟨hb0, hX, hI, hI2⟩ := intBox_parts w (p : Int)
  obtain ⟨c1, c2, _, _⟩ := chk_zero hc
  have HC := hide (check_any v qs J _ (h.below hb0) hq (by have e : qs.length * (J + 2) = qs.length * (J + 1) + qs.length := (Nat.mul_succ _ _); omega))
  rw [hc, errV_zero] at HC
  have HME : Hid (∀ W, Below (intBox w (p : Int)).heap.size (intBox w (p : Int)) W → Calls Tryd.prog 67 #[v, .func (.func 68) #[] #[.pointer (some ⟨w.heap.size, 0, none⟩)]] W fun e w' => ∃ v, e = .returned v ∧ RatIs w' v (wsum qs (fun j => ((j ^ p : Nat) : Int)) qs.length) ∧ Below W.heap.size W w') := fun W hW =>
    mean_any v qs J _ _ (fun j => ((j ^ p : Nat) : Int)) W (h.below (below_step hb0 hW)) hq hJ (fun j hj => pow_I64 (by omega) hp) egMoment (fun j hj W' hW' => moment1_any j p _ (by omega) (by omega) W' (by rw [hW'.cell (p := ⟨w.heap.size, 0, none⟩) (Nat.lt_of_lt_of_le hI2 hW.size), hW.cell (p := ⟨w.heap.size, 0, none⟩) hI2]; exact hI))
  have HB0 := hide hb0
  have HX := hide hX
  have HI : Hid (∀ W, Below (intBox w (p : Int)).heap.size (intBox w (p : Int)) W → W.cell? ⟨w.heap.size, 0, none⟩ = some (.int .i64 (p : Int))) := fun W hW => by rw [hW.cell (p := ⟨w.heap.size, 0, none⟩) hI2]; exact hI
  obtain ⟨W0, hW0⟩ : ∃ W, (w.alloc (.cells #[.int .i64 (p : Int)] 3)).alloc (.cells #[.bool false, .slice none 0 0, .slice none 0 0] 31) = W := ⟨_, rfl⟩
  obtain ⟨gr, hgr⟩ : ∃ g, w.heap.size + 1 = g := ⟨_, rfl⟩
  have hle : w.heap.size ≤ gr := by omega
  have hW0' : intBox w (p : Int) = W0 := hW0
  rw [hW0'] at HC HB0 HX HME HI
  rw [hgr] at HX
  have HLE := hide hle
  have p1 : ¬ (p : Int) < 0 := by omega
  have p2 : ¬ (4 : Int) < (p : Int) := by omega
  clear h hq hJ hc hb0 hX hI hI2 hW0' hle c1 c2
  go_enter Tryd.func31, Tryd.ntmps31
  go_wp2_with fail
  clear hW0 hgr
  refine (unhide HC).mono ?_
  rintro e w2 ⟨rfl, hb2⟩
  have hc2 := unhide HI _ hb2
  have HX2 := hide ((unhide HX).keep hb2)
  have HB2 := hide (below_step (unhide HB0) hb2)
  have HM2 := hide (unhide HME _ hb2)
  clear hb2 HX HB0 HME HI HC
  go_wp2_with fail
  refine (unhide HM2).mono ?_
  rintro e w3 ⟨v3, rfl, hv3, hb3⟩
  obtain ⟨t, rfl, hr3⟩ := tri_of hv3
  have X3 := (unhide HX2).keep hb3
  have ⟨g0, g1, g2, f0, f1, f2⟩ := box_cell X3.1
  have rb := rat_boxed (w0 := w) hr3 X3.1 (below_step (unhide HB2) hb3) (unhide HLE) (.bool t.s) (.slice t.a1 t.n1 t.c1) (.slice t.a2 t.n2 t.c2)
  have RB := hide rb
  simp only [Tri.val]
  clear X3 rb hv3 hr3 hb3 hc2
  go_wp2
  have rb := unhide RB
  exact bodyPost_ret (v := .tuple #[.agg #[.bool t.s, .slice t.a1 t.n1 t.c1, .slice t.a2 t.n2 t.c2], .nilIface]) (by simp [results, Tryd.results31, go_sem, g0, g1, g2]) rfl ⟨_, rfl, rb.1, rb.2⟩

end Go.Proofs.YtpopcfclpemlaaaDoor
