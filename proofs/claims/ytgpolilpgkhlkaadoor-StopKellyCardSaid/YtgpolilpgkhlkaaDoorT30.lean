/- Kelly: Horse; three rows that grow. -/
import Derived.Test.YtgpolilpgkhlkaaDoorT20
namespace Go.Proofs.YtgpolilpgkhlkaaDoor
open Go.RowKit Go.Sort Go.Shelf

/-- pick's value. -/
def pkv (a : Int) (n : Nat) : Nat := (IntKind.u64.wrap a % (n : Int)).toNat
theorem pkv_lt (a : Int) {n : Nat} (hn : 0 < n) : pkv a n < n := by
  have hm0 : 0 ≤ IntKind.u64.wrap a % (n : Int) := Int.emod_nonneg _ (by omega)
  have hm1 : IntKind.u64.wrap a % (n : Int) < (n : Int) := Int.emod_lt_of_pos _ (by omega)
  unfold pkv; omega
set_option maxRecDepth 100000 in
theorem pick_val (a : Int) (n : Nat) (hn : 0 < n) (hn1 : n ≤ 1000) (w : World) :
    Calls Tryd.prog 8 #[.int .i64 a, .int .i64 (n : Int)] w fun e w' => e = .returned (.int .i64 ((pkv a n : Nat) : Int)) ∧ w' = w := by
  have e1 : IntKind.u64.wrap (n : Int) = (n : Int) := by rw [IntKind.wrap_u64]; omega
  obtain ⟨z, hz'⟩ : ∃ z, pkv a n = z := ⟨_, rfl⟩
  have hzl := pkv_lt a hn
  unfold pkv at hz'
  obtain ⟨x, hx⟩ : ∃ x, IntKind.u64.wrap a = x := ⟨_, rfl⟩
  rw [hx] at hz'
  have hx0 : 0 ≤ x := by rw [← hx, IntKind.wrap_u64]; omega
  have hx1 : x < 18446744073709551616 := by rw [← hx, IntKind.wrap_u64]; omega
  have hz : ((n : Int) == 0) = false := by rw [beq_eq_false_iff_ne]; omega
  have hm0 : 0 ≤ x % (n : Int) := Int.emod_nonneg _ (by omega)
  have hm1 : x % (n : Int) < (n : Int) := Int.emod_lt_of_pos _ (by omega)
  have hk : x % (n : Int) = (z : Int) := by omega
  have hpk : pkv a n = z := by unfold pkv; rw [hx]; exact hz'
  rw [hpk] at hzl ⊢
  clear hm0 hm1 hz' hpk
  go_enter Tryd.func8, Tryd.ntmps8
  go_wp2
  go_ret
  exact ⟨rfl, rfl⟩
/-- A row stays where a box is written. -/
theorem LawIs.boxed {w : World} {g : Nat} {a : Option Addr} {n c : Nat} {qs : List Rat} {t : Tri} (h : LawIs w (.slice a n c) qs) (hg : w.heap[g]? = some (.cells #[.bool t.s, .slice t.a1 t.n1 t.c1, .slice t.a2 t.n2 t.c2] 35)) (x0 x1 x2 : Value) (hne : ∀ ad, a = some ad → ad.block ≠ g) : LawIs (((w.setCell ⟨g, 0, none⟩ x0).setCell ⟨g, 1, none⟩ x1).setCell ⟨g, 2, none⟩ x2) (.slice a n c) qs := by
  obtain ⟨a', c', e, h1, h2, h3⟩ := h
  refine ⟨a', c', e, h1, h2, fun hp => ?_⟩
  obtain ⟨b, o, ea, hlt, hc⟩ := h3 hp
  have nb : b ≠ g := hne ⟨b, o, none⟩ (by injection e with e1; rw [e1, ea])
  refine ⟨b, o, ea, by simpa [World.setCell] using hlt, fun j hj => ?_⟩
  obtain ⟨s, a1, a2, n1, c1, n2, c2, k0, k1, k2, r⟩ := hc j hj
  refine ⟨s, a1, a2, n1, c1, n2, c2, ?_, ?_, ?_, RatIs.other r hg (noWord3 _ _ _ _ _ _ _ _ _) (by simp [World.setCell]) (fun k hk => by rw [Below.heap_setCell _ _ _ _ hk, Below.heap_setCell _ _ _ _ hk, Below.heap_setCell _ _ _ _ hk])⟩
  · rw [cell_other nb, cell_other nb, cell_other nb]; exact k0
  · rw [cell_other nb, cell_other nb, cell_other nb]; exact k1
  · rw [cell_other nb, cell_other nb, cell_other nb]; exact k2
/-- What Horse says of chances that may be. -/
def HorsePost (w : World) (n : Nat) (qs : List Rat) (q : Rat) (e : Ending) (w' : World) : Prop := ∃ (a : Option Addr) (c : Nat) (vb : Value), e = .returned (.tuple #[.slice a n c, vb, .nilIface]) ∧ LawIs w' (.slice a n c) qs ∧ RatIs w' vb q ∧ Below w.heap.size w w'
set_option maxHeartbeats 16000000 in
set_option maxRecDepth 100000 in
set_option linter.unusedSimpArgs false in
theorem horse_any (v0 v1 : Value) (qs ys : List Rat) (j : Nat) (w : World) (h0 : LawIs w v0 qs) (h1 : LawIs w v1 ys) (hck : chk qs = 0) (hl : ys.length = qs.length) (hy : ∀ i, i < qs.length → 0 < ys[i]!) (hj : j < qs.length) (hq : ∀ i, i < qs.length → RS qs[i]! 1) (hyr : ∀ i, i < qs.length → RS ys[i]! 1) (hn : qs.length ≤ 1000) :
    Calls Tryd.prog 26 #[v0, v1, .int .i64 (j : Int)] w (HorsePost w qs.length qs (qs[j]! * ys[j]!)) := by
  have KKe : KK = 1099511627776 := rfl
  have HL0 := hide h0
  have HL1 := hide h1
  have HY := hide hy
  have HQ := hide hq
  have HYR := hide hyr
  obtain ⟨a0, c0, rfl, p1, p2, p3⟩ := h0
  obtain ⟨a1, c1, rfl, r1, r2, r3⟩ := h1
  obtain ⟨n, hn'⟩ : ∃ n, qs.length = n := ⟨_, rfl⟩
  have HN := hide hn'
  have HYL : Hid (ys.length = n) := by show _ = _; rw [hl, hn']
  rw [hl, hn'] at HL1 r1 ⊢
  rw [hn'] at HL0 p1 hj hn
  have b0 := alloc_below w (.cells #[.bool false, .slice none 0 0, .slice none 0 0] 35)
  have X0 := BoxIs.new (w := w) (t := zTri) (q := 0) (rat_zero _)
  obtain ⟨W0, hW0⟩ : ∃ W, w.alloc (.cells #[.bool false, .slice none 0 0, .slice none 0 0] 35) = W := ⟨_, rfl⟩
  obtain ⟨R, hR⟩ : ∃ R, w.heap.size = R := ⟨_, rfl⟩
  have X0' : BoxIs W0 R zTri 0 := by rw [← hW0, ← hR]; exact X0
  rw [hW0] at b0
  have HX0w := hide X0'
  have HB0w := hide b0
  have HRG : Hid (w.heap.size ≤ R) := by show _ ≤ R; omega
  have HRL := hide X0'.lt
  have HCK := hide (check_any (.slice a0 n c0) qs 1 W0 ((unhide HL0).below b0) (unhide HQ) (by rw [KKe]; omega))
  rw [hck] at HCK
  clear X0 X0' b0 p3 r3 hy hq hyr hn' hl hck
  go_enter Tryd.func26, Tryd.ntmps26
  go_wp2_with fail
  clear hW0 hR
  refine (unhide HCK).mono ?_
  rintro e w1 ⟨rfl, hb1⟩
  have e5 : errV 0 = .nilIface := rfl
  rw [e5]
  have HX0 := hide ((unhide HX0w).keep hb1)
  have HB0 := hide (below_step (unhide HB0w) hb1)
  have HR1 : Hid (R < w1.heap.size) := Nat.lt_of_lt_of_le (unhide HRL) hb1.size
  clear hb1 e5 HCK HX0w HB0w
  go_wp2_with fail
  go_loopw [26] (fun vi wr => ∃ i : Nat, vi = .int .i64 (i : Int) ∧ i ≤ n ∧ Below w1.heap.size w1 wr) (fun vi _ => n - (intOf vi).toNat)
  case atStart => exact ⟨0, rfl, Nat.zero_le _, Below.refl _ _⟩
  case round =>
    obtain ⟨i, rfl, hi, hB⟩ := hrel
    have HBB := hide hB
    by_cases hlt : i < n
    · have f1 : (i : Int) < (n : Int) := by omega
      have f0 : (0 : Int) ≤ (i : Int) := by omega
      obtain ⟨a_y, c_y, e_y, _, _, h_y⟩ := (unhide HL1).below (below_step (unhide HB0) hB)
      obtain ⟨by_, oy, eb_y, hl_y, hc_y⟩ := h_y (by rw [unhide HYL]; omega)
      have ea_y : a1 = some ⟨by_, oy, none⟩ := by injection e_y with e1; rw [e1, eb_y]
      obtain ⟨y_s, y_p1, y_p2, y_n1, y_d1, y_n2, y_d2, ky0, ky1, ky2, r_y⟩ := hc_y i (by rw [unhide HYL]; omega)
      obtain ⟨tx, rfl, rfl, rfl, rfl, rfl, rfl, rfl⟩ : ∃ t : Tri, y_s = t.s ∧ y_p1 = t.a1 ∧ y_p2 = t.a2 ∧ y_n1 = t.n1 ∧ y_d1 = t.c1 ∧ y_n2 = t.n2 ∧ y_d2 = t.c2 := ⟨⟨y_s, y_p1, y_p2, y_n1, y_d1, y_n2, y_d2⟩, rfl, rfl, rfl, rfl, rfl, rfl, rfl⟩
      clear e_y eb_y h_y hc_y
      have bA := alloc_below wr (.cells #[.bool tx.s, .slice tx.a1 tx.n1 tx.c1, .slice tx.a2 tx.n2 tx.c2] 35)
      have X5 := BoxIs.new r_y
      obtain ⟨W5, hW5⟩ : ∃ W, wr.alloc (.cells #[.bool tx.s, .slice tx.a1 tx.n1 tx.c1, .slice tx.a2 tx.n2 tx.c2] 35) = W := ⟨_, rfl⟩
      obtain ⟨gx, hgx⟩ : ∃ g, wr.heap.size = g := ⟨_, rfl⟩
      rw [hW5] at bA X5
      rw [hgx] at X5
      have ⟨z0, z1, z2⟩ := X5.cells _ (Below.refl _ _)
      have HSG := hide (sign_any tx.val _ W5 X5.2)
      rw [sign_ps (unhide HY i (by have := unhide HN; omega))] at HSG
      have HB5 := hide (below_step (unhide HBB) bA)
      rw [ea_y]
      clear hB bA X5 r_y
      go_wp2_with fail
      refine (unhide HSG).mono ?_
      rintro e w6 ⟨rfl, hb6⟩
      have HB6 := hide (below_step (unhide HB5) hb6)
      clear hb6 z0 z1 z2 hW5 hgx HSG HB5
      go_wp2_with fail
      exact ⟨⟨i + 1, by go_num, hlt, unhide HB6⟩, by simp [intOf]; omega⟩
    · obtain rfl : i = n := by omega
      have f1 : ¬ (i : Int) < (i : Int) := by omega
      have g0 : ¬ (j : Int) < 0 := by omega
      have g1 : ¬ (i : Int) ≤ (j : Int) := by omega
      have g2 : (j : Int) < (i : Int) := by omega
      have g3 : (0 : Int) ≤ (j : Int) := by omega
      obtain ⟨a_p, c_p, e_p, _, _, h_p⟩ := (unhide HL0).below (below_step (unhide HB0) hB)
      obtain ⟨bp, op, eb_p, hl_p, hc_p⟩ := h_p (by rw [unhide HN]; omega)
      have ea_p : a0 = some ⟨bp, op, none⟩ := by injection e_p with e1; rw [e1, eb_p]
      obtain ⟨p_s, p_p1, p_p2, p_n1, p_d1, p_n2, p_d2, kp0, kp1, kp2, r_p⟩ := hc_p j (by rw [unhide HN]; omega)
      obtain ⟨tp, rfl, rfl, rfl, rfl, rfl, rfl, rfl⟩ : ∃ t : Tri, p_s = t.s ∧ p_p1 = t.a1 ∧ p_p2 = t.a2 ∧ p_n1 = t.n1 ∧ p_d1 = t.c1 ∧ p_n2 = t.n2 ∧ p_d2 = t.c2 := ⟨⟨p_s, p_p1, p_p2, p_n1, p_d1, p_n2, p_d2⟩, rfl, rfl, rfl, rfl, rfl, rfl, rfl⟩
      clear e_p eb_p h_p hc_p
      obtain ⟨a_y, c_y, e_y, _, _, h_y⟩ := (unhide HL1).below (below_step (unhide HB0) hB)
      obtain ⟨by_, oy, eb_y, hl_y, hc_y⟩ := h_y (by rw [unhide HYL]; omega)
      have ea_y : a1 = some ⟨by_, oy, none⟩ := by injection e_y with e1; rw [e1, eb_y]
      obtain ⟨y_s, y_p1, y_p2, y_n1, y_d1, y_n2, y_d2, ky0, ky1, ky2, r_y⟩ := hc_y j (by rw [unhide HYL]; omega)
      obtain ⟨ty, rfl, rfl, rfl, rfl, rfl, rfl, rfl⟩ : ∃ t : Tri, y_s = t.s ∧ y_p1 = t.a1 ∧ y_p2 = t.a2 ∧ y_n1 = t.n1 ∧ y_d1 = t.c1 ∧ y_n2 = t.n2 ∧ y_d2 = t.c2 := ⟨⟨y_s, y_p1, y_p2, y_n1, y_d1, y_n2, y_d2⟩, rfl, rfl, rfl, rfl, rfl, rfl, rfl⟩
      clear e_y eb_y h_y hc_y
      have HCC : Hid (∀ W, Below wr.heap.size wr W → (fun w' : World => (w'.cell? ⟨bp, op + j * 3, none⟩ = some (.bool tp.s) ∧ w'.cell? ⟨bp, op + j * 3 + 1, none⟩ = some (.slice tp.a1 tp.n1 tp.c1) ∧ w'.cell? ⟨bp, op + j * 3 + 2, none⟩ = some (.slice tp.a2 tp.n2 tp.c2)) ∧ w'.cell? ⟨by_, oy + j * 3, none⟩ = some (.bool ty.s) ∧ w'.cell? ⟨by_, oy + j * 3 + 1, none⟩ = some (.slice ty.a1 ty.n1 ty.c1) ∧ w'.cell? ⟨by_, oy + j * 3 + 2, none⟩ = some (.slice ty.a2 ty.n2 ty.c2)) W) := fun W hW => by
        refine ⟨?_, ?_⟩
        · rw [hW.cell (p := ⟨bp, op + j * 3, none⟩) hl_p, hW.cell (p := ⟨bp, op + j * 3 + 1, none⟩) hl_p, hW.cell (p := ⟨bp, op + j * 3 + 2, none⟩) hl_p]; exact ⟨kp0, kp1, kp2⟩
        · rw [hW.cell (p := ⟨by_, oy + j * 3, none⟩) hl_y, hW.cell (p := ⟨by_, oy + j * 3 + 1, none⟩) hl_y, hW.cell (p := ⟨by_, oy + j * 3 + 2, none⟩) hl_y]; exact ⟨ky0, ky1, ky2⟩
      have HCL : Hid (∀ W, Below wr.heap.size wr W → Calls Tryd.prog 41 #[.slice a0 i c0] W fun e w' => ∃ (G : Nat) (us : List Tri), e = .returned (.slice (some ⟨G, 0, none⟩) i us.length) ∧ SumsAt W w' G us (qs ++ List.replicate (us.length - i) 0) ∧ i ≤ us.length ∧ us.length ≤ 9223372036854775807) := fun W hW => by
        have := rclone_any (.slice a0 i c0) qs W ((unhide HL0).below (below_step (unhide HB0) (below_step hB hW))) (by have := unhide HN; omega) (by have := unhide HN; omega)
        unfold ClonePost at this
        rw [unhide HN] at this
        exact this
      have HFR : Hid (∀ (G k : Nat) (W : World), Below wr.heap.size wr W → W.heap.size ≤ G → ∀ ad, (some ⟨G, 0, none⟩ : Option Addr) = some ad → ad.block ≠ R) := fun G k W hW hG ad e he => by
        injection e with e
        rw [← e] at he
        have h1 := unhide HR1
        have h2 := hB.size
        have h3 := hW.size
        simp only at he
        omega
      have HTP := hide r_p
      have HTY := hide r_y
      have HRP := hide (unhide HQ j (by have := unhide HN; omega))
      have HRY := hide (unhide HYR j (by have := unhide HN; omega))
      have HJ : Hid (1 + 1 + 1 ≤ KK) := by show _ ≤ _; rw [KKe]; omega
      rw [ea_p] at HCL ⊢
      rw [ea_y]
      clear hB r_p r_y kp0 kp1 kp2 ky0 ky1 ky2
      go_wp2_with fail
      refine wp_region_till (fun w' : World => (w'.cell? ⟨bp, op + j * 3, none⟩ = some (.bool tp.s) ∧ w'.cell? ⟨bp, op + j * 3 + 1, none⟩ = some (.slice tp.a1 tp.n1 tp.c1) ∧ w'.cell? ⟨bp, op + j * 3 + 2, none⟩ = some (.slice tp.a2 tp.n2 tp.c2)) ∧ w'.cell? ⟨by_, oy + j * 3, none⟩ = some (.bool ty.s) ∧ w'.cell? ⟨by_, oy + j * 3 + 1, none⟩ = some (.slice ty.a1 ty.n1 ty.c1) ∧ w'.cell? ⟨by_, oy + j * 3 + 2, none⟩ = some (.slice ty.a2 ty.n2 ty.c2)) 12 (by kernel_rfl) ?_
      have bd0 : Below wr.heap.size wr wr.drew := (Below.refl _ _).drew
      have hC0 : (fun w' : World => (w'.cell? ⟨bp, op + j * 3, none⟩ = some (.bool tp.s) ∧ w'.cell? ⟨bp, op + j * 3 + 1, none⟩ = some (.slice tp.a1 tp.n1 tp.c1) ∧ w'.cell? ⟨bp, op + j * 3 + 2, none⟩ = some (.slice tp.a2 tp.n2 tp.c2)) ∧ w'.cell? ⟨by_, oy + j * 3, none⟩ = some (.bool ty.s) ∧ w'.cell? ⟨by_, oy + j * 3 + 1, none⟩ = some (.slice ty.a1 ty.n1 ty.c1) ∧ w'.cell? ⟨by_, oy + j * 3 + 2, none⟩ = some (.slice ty.a2 ty.n2 ty.c2)) wr.drew := unhide HCC _ bd0
      refine wpTill_pure (i := 0) (v := ?_) rfl (by kernel_rfl) (by kernel_rfl) (by kernel_rfl) (by kernel_rfl) (fun _ _ _ h => h) (Or.inl ⟨by rfl, ?_⟩) (fun _ => hC0) ?_
      rotate_left
      · intro w hSw; clear hSw; go_simp; (try with_reducible rfl)
      (try simp only [List.getElem_toArray, List.getElem_cons_succ, List.getElem_cons_zero])
      (try simp only [Act.put, List.setIfInBounds_toArray, List.set_cons_zero, List.set_cons_succ])
      refine wpTill_pure (i := 2) (v := ?_) rfl (by kernel_rfl) (by kernel_rfl) (by kernel_rfl) (by kernel_rfl) (fun _ _ _ h => h) (Or.inl ⟨by rfl, ?_⟩) (fun _ => hC0) ?_
      rotate_left
      · intro w hSw; clear hSw; go_simp; (try with_reducible rfl)
      (try simp only [List.getElem_toArray, List.getElem_cons_succ, List.getElem_cons_zero])
      (try simp only [Act.put, List.setIfInBounds_toArray, List.set_cons_zero, List.set_cons_succ])
      refine wpTill_pure (i := 3) (v := ?_) rfl (by kernel_rfl) (by kernel_rfl) (by kernel_rfl) (by kernel_rfl) (fun _ _ _ h => h) (Or.inl ⟨by rfl, ?_⟩) (fun _ => hC0) ?_
      rotate_left
      · intro w hSw; clear hSw; go_simp; (try with_reducible rfl)
      (try simp only [List.getElem_toArray, List.getElem_cons_succ, List.getElem_cons_zero])
      (try simp only [Act.put, List.setIfInBounds_toArray, List.set_cons_zero, List.set_cons_succ])
      refine wpTill_pure (i := 4) (v := ?_) rfl (by kernel_rfl) (by kernel_rfl) (by kernel_rfl) (by kernel_rfl) (fun _ _ _ h => h) (Or.inl ⟨by rfl, ?_⟩) (fun _ => hC0) ?_
      rotate_left
      · intro w hSw; clear hSw; go_simp; (try with_reducible rfl)
      (try simp only [List.getElem_toArray, List.getElem_cons_succ, List.getElem_cons_zero])
      (try simp only [Act.put, List.setIfInBounds_toArray, List.set_cons_zero, List.set_cons_succ])
      refine wpTill_take (i := 5) (v := ?_) rfl (by kernel_rfl) (by kernel_rfl) (by kernel_rfl) (by kernel_rfl) (by kernel_rfl) (by kernel_rfl) (fun _ _ _ h => h) (Or.inl ⟨by rfl, ?_⟩) hC0 ?_
      rotate_left
      · intro w hSw; (try dsimp only at hSw); obtain ⟨⟨z0, z1, z2⟩, z3, z4, z5⟩ := hSw; go_simp; (try with_reducible rfl)
      (try simp only [List.getElem_toArray, List.getElem_cons_succ, List.getElem_cons_zero])
      (try simp only [Act.put, List.setIfInBounds_toArray, List.set_cons_zero, List.set_cons_succ])
      refine wpTill_pure (i := 6) (v := ?_) rfl (by kernel_rfl) (by kernel_rfl) (by kernel_rfl) (by kernel_rfl) (fun _ _ _ h => h) (Or.inl ⟨by rfl, ?_⟩) (fun _ => hC0) ?_
      rotate_left
      · intro w hSw; clear hSw; go_simp; (try with_reducible rfl)
      (try simp only [List.getElem_toArray, List.getElem_cons_succ, List.getElem_cons_zero])
      (try simp only [Act.put, List.setIfInBounds_toArray, List.set_cons_zero, List.set_cons_succ])
      refine wpTill_pure (i := 7) (v := ?_) rfl (by kernel_rfl) (by kernel_rfl) (by kernel_rfl) (by kernel_rfl) (fun _ _ _ h => h) (Or.inl ⟨by rfl, ?_⟩) (fun _ => hC0) ?_
      rotate_left
      · intro w hSw; clear hSw; go_simp; (try with_reducible rfl)
      (try simp only [List.getElem_toArray, List.getElem_cons_succ, List.getElem_cons_zero])
      (try simp only [Act.put, List.setIfInBounds_toArray, List.set_cons_zero, List.set_cons_succ])
      refine wpTill_pure (i := 8) (v := ?_) rfl (by kernel_rfl) (by kernel_rfl) (by kernel_rfl) (by kernel_rfl) (fun _ _ _ h => h) (Or.inl ⟨by rfl, ?_⟩) (fun _ => hC0) ?_
      rotate_left
      · intro w hSw; clear hSw; go_simp; (try with_reducible rfl)
      (try simp only [List.getElem_toArray, List.getElem_cons_succ, List.getElem_cons_zero])
      (try simp only [Act.put, List.setIfInBounds_toArray, List.set_cons_zero, List.set_cons_succ])
      refine wpTill_take (i := 9) (v := ?_) rfl (by kernel_rfl) (by kernel_rfl) (by kernel_rfl) (by kernel_rfl) (by kernel_rfl) (by kernel_rfl) (fun _ _ _ h => h) (Or.inl ⟨by rfl, ?_⟩) hC0 ?_
      rotate_left
      · intro w hSw; (try dsimp only at hSw); obtain ⟨⟨z0, z1, z2⟩, z3, z4, z5⟩ := hSw; go_simp; (try with_reducible rfl)
      (try simp only [List.getElem_toArray, List.getElem_cons_succ, List.getElem_cons_zero])
      (try simp only [Act.put, List.setIfInBounds_toArray, List.set_cons_zero, List.set_cons_succ])
      refine wpTill_one (k := 1) (by kernel_rfl) rfl (fun K hK => ?_)
      (try simp only [List.getElem_toArray, List.getElem_cons_succ, List.getElem_cons_zero])
      go_simp
      refine (unhide HCL _ bd0).mono ?_
      rintro e xw_1 ⟨G1, us1, rfl, S1, hu0, hu1⟩
      have hb_1 := S1.bl
      have cc_1 := below_step bd0 hb_1
      have hC_1 : (fun w' : World => (w'.cell? ⟨bp, op + j * 3, none⟩ = some (.bool tp.s) ∧ w'.cell? ⟨bp, op + j * 3 + 1, none⟩ = some (.slice tp.a1 tp.n1 tp.c1) ∧ w'.cell? ⟨bp, op + j * 3 + 2, none⟩ = some (.slice tp.a2 tp.n2 tp.c2)) ∧ w'.cell? ⟨by_, oy + j * 3, none⟩ = some (.bool ty.s) ∧ w'.cell? ⟨by_, oy + j * 3 + 1, none⟩ = some (.slice ty.a1 ty.n1 ty.c1) ∧ w'.cell? ⟨by_, oy + j * 3 + 2, none⟩ = some (.slice ty.a2 ty.n2 ty.c2)) xw_1 := unhide HCC _ cc_1
      refine hK.out _ _ (fun _ => hC_1) ?_
      clear hK K
      (try simp only [Act.put, List.setIfInBounds_toArray, List.set_cons_zero, List.set_cons_succ])
      refine wpTill_one (k := 10) (by kernel_rfl) rfl (fun K hK => ?_)
      (try simp only [List.getElem_toArray, List.getElem_cons_succ, List.getElem_cons_zero])
      go_simp
      refine (mulR_any tp.val ty.val _ _ _ ((unhide HTP).below cc_1) ((unhide HTY).below cc_1) 1 (unhide HRP) (unhide HRY) (unhide HJ)).mono ?_
      rintro e xw_2 ⟨xv_2, rfl, hv_2, hb_2⟩
      have cc_2 := below_step cc_1 hb_2
      have hC_2 : (fun w' : World => (w'.cell? ⟨bp, op + j * 3, none⟩ = some (.bool tp.s) ∧ w'.cell? ⟨bp, op + j * 3 + 1, none⟩ = some (.slice tp.a1 tp.n1 tp.c1) ∧ w'.cell? ⟨bp, op + j * 3 + 2, none⟩ = some (.slice tp.a2 tp.n2 tp.c2)) ∧ w'.cell? ⟨by_, oy + j * 3, none⟩ = some (.bool ty.s) ∧ w'.cell? ⟨by_, oy + j * 3 + 1, none⟩ = some (.slice ty.a1 ty.n1 ty.c1) ∧ w'.cell? ⟨by_, oy + j * 3 + 2, none⟩ = some (.slice ty.a2 ty.n2 ty.c2)) xw_2 := unhide HCC _ cc_2
      refine hK.out _ _ (fun _ => hC_2) ?_
      clear hK K
      (try simp only [Act.put, List.setIfInBounds_toArray, List.set_cons_zero, List.set_cons_succ])
      refine wpTill_pure (i := 11) (v := ?_) rfl (by kernel_rfl) (by kernel_rfl) (by kernel_rfl) (by kernel_rfl) (fun _ _ _ h => h) (Or.inl ⟨by rfl, ?_⟩) (fun _ => hC_2) ?_
      rotate_left
      · intro w hSw; clear hSw; go_simp; (try with_reducible rfl)
      (try simp only [List.getElem_toArray, List.getElem_cons_succ, List.getElem_cons_zero])
      (try simp only [Act.put, List.setIfInBounds_toArray, List.set_cons_zero, List.set_cons_succ])
      obtain ⟨t9, rfl, r9⟩ := tri_of hv_2
      simp only [Tri.val]
      have HL9 : Hid (LawIs xw_2 (.slice (some ⟨G1, 0, none⟩) i us1.length) qs) := (S1.keep hb_2).law_take hu1 (by have := unhide HN; omega) (unhide HN) (fun i hi => by rw [List.getElem!_eq_getElem?_getD, List.getElem!_eq_getElem?_getD, List.getElem?_append_left (by rw [unhide HN]; exact hi)])
      have Y9 := (unhide HX0).keep (below_step (unhide HBB) cc_2)
      have ⟨l0, l1, l2⟩ := Y9.free
      have ⟨y0, y1, y2⟩ := Y9.cells _ (Below.refl _ _)
      have RB := hide (rat_boxed (w0 := w) r9 Y9.1 (below_step (unhide HB0) (below_step (unhide HBB) cc_2)) (unhide HRG) (.bool t9.s) (.slice t9.a1 t9.n1 t9.c1) (.slice t9.a2 t9.n2 t9.c2))
      have LB := hide ((unhide HL9).boxed Y9.1 (.bool t9.s) (.slice t9.a1 t9.n1 t9.c1) (.slice t9.a2 t9.n2 t9.c2) (unhide HFR G1 us1.length _ bd0 S1.gl))
      obtain ⟨k1, hk1⟩ : ∃ k, us1.length = k := ⟨_, rfl⟩
      rw [hk1] at LB ⊢
      clear S1 hv_2 r9 Y9 HL9 hu0 hu1
      refine wpTill_one (k := 12) (by kernel_rfl) rfl (fun K hK => ?_)
      (try simp only [List.getElem_toArray, List.getElem_cons_succ, List.getElem_cons_zero])
      go_simp
      refine hK.out _ _ (fun h => absurd (h.symm.trans (by kernel_rfl)) Bool.false_ne_true) ?_
      clear hK K
      (try simp only [Act.put, List.setIfInBounds_toArray, List.set_cons_zero, List.set_cons_succ])
      refine wpTill_pure (i := 13) (v := ?_) rfl (by kernel_rfl) (by kernel_rfl) (by kernel_rfl) (by kernel_rfl) (fun _ _ _ h => h) (Or.inl ⟨by rfl, ?_⟩) (fun h => absurd (h.symm.trans (by kernel_rfl)) Bool.false_ne_true) ?_
      rotate_left
      · intro w hSw; clear hSw; go_simp; (try with_reducible rfl)
      (try simp only [List.getElem_toArray, List.getElem_cons_succ, List.getElem_cons_zero])
      (try simp only [Act.put, List.setIfInBounds_toArray, List.set_cons_zero, List.set_cons_succ])
      refine wpTill_done (by kernel_rfl) ?_ _
      clear hC0 hC_1 hC_2 cc_1 cc_2 bd0 hb_1 hb_2 l0 l1 l2 HCC HCL HTP HTY HFR hk1
      go_wp2
      (try simp only [Exit.inBlock, Exit.then])
      have rb := unhide RB
      exact bodyPost_ret (v := .tuple #[.slice (some ⟨G1, 0, none⟩) i k1, .agg #[.bool t9.s, .slice t9.a1 t9.n1 t9.c1, .slice t9.a2 t9.n2 t9.c2], .nilIface]) (by simp [results, Tryd.results26, go_sem, y0, y1, y2]) rfl ⟨_, _, _, rfl, unhide LB, rb.1, rb.2⟩

theorem step_append_tri {P : Program} (w : World) {ops : Array Oper} {o : Oper} {a : Act} {K : Act → World → Prop} {Q : Exit → Act → World → Prop} {E : Prop} (hgd : o.guard = none) (s x : Operand) (t : TypeId)
    (ho : o.op = .call { callee := .builtin .append, args := #[s, x], argTypes := #[t, t] })
    (base : Nat) (e : TypeId) (i : TypeInfo) (bytes : Nat) (ht : P.underlying t = some (.slice e)) (hi : P.info? e = some i) (hz : i.zero = some (.agg zR))
    (hsize : i.size = 3) (hby : i.bytes = bytes)
    (v : Value) (n : Nat) (xs : List Value) (hs : a.eval s = v) (hown : w.ownsRow base e 3 v n xs) (hno : ∀ g, v.ownBlock = some g → Wordless w g)
    (ad : Addr) (m c : Nat) (news : List Value) (hx : a.eval x = .slice (some ad) m c) (hl : news.length = m * 3) (hnews : ∀ j u, news[j]? = some u → w.cell? (ad.add j) = some u) (h1 : ∀ u ∈ news, u.oneCell' = true) (h1w : ∀ u ∈ news, Go.Proofs.YtgpolilpgkhlkaaDoor.notWord u)
    (hm : 0 < m) (h63 : n + m ≤ maxLen) (hbytes : (n + m) * bytes ≤ 140737488355328) (hbase : base ≤ w.heap.size) (H : Nat) (hH : w.heap.size = H)
    (h : ∀ g cap w', w'.ownsRow base e 3 (.slice (some ⟨g, 0, none⟩) (n + m) cap) (n + m) (xs ++ news) → w.grownBy w' v.ownBlock → (v.ownBlock = some g ∨ g = H) → g < w'.heap.size → Wordless w' g → K (a.put o.dst (.slice (some ⟨g, 0, none⟩) (n + m) cap)) w') :
    if Region.wanted o (yielded ops a.tmps) = true then Oper.wp P o a w K Q else E := by
  have hw : Region.wanted o (yielded ops a.tmps) = true := by simp [Region.wanted, hgd]
  rw [if_pos hw]
  obtain ⟨g, cap, w', hr, h2, h3, h4, h5⟩ := run_append_lies (P := P) w t o.type base e i _ 3 bytes ht hi hz hsize hby (by decide) (by omega) v n xs hown ad m c news hl hnews h1 hm h63 hbytes hbase H hH
  have h6 := append_wordless ht hi hz hsize hby hown hno hl hnews h1 h1w hm h63 hbytes hr
  unfold Oper.wp execOp
  simp only [ho, resolve, invoke, builtin, Sem.run_bind, Sem.run_pure, Result.andThen_ok, List.map_toArray, List.map_cons, List.map_nil, hs, hx, hr]
  exact h g cap w' h2 h3 h4 h5 h6
/-- A row is kept where another one of the call's own grows. -/
theorem FsAt.apart {w wr w' : World} {B : Nat} {v : Value} {ts : List Tri} {qs : List Rat} {r : Option Nat} (h : FsAt w wr B v ts qs) (hg : wr.grownBy w' r) (hne : ∀ k, v.ownBlock = some k → r ≠ some k) (hno : ∀ g, r = some g → Wordless wr g) (hb : Below w.heap.size w w') : FsAt w w' B v ts qs := by
  have hblk : ∀ k, v.ownBlock = some k → w'.heap[k]? = wr.heap[k]? := fun k hk => hg.block k (ownsR_block h.own k hk).2 (fun e => hne k hk e.symm)
  refine ⟨?_, fun g hgb i k x e => h.no g hgb i k x ?_, fun j hj => (h.rat j hj).far hg hno, hb, h.base⟩
  · refine ⟨h.own.1, ?_⟩
    rcases h.own.2 with h2 | ⟨g, cap, cur, hv, hbg, hh, hr⟩
    · exact Or.inl h2
    · exact Or.inr ⟨g, cap, cur, hv, hbg, by rw [hblk g (by rw [hv]; rfl)]; exact hh, hr⟩
  · simp only [World.cell?] at e ⊢
    rw [← hblk g hgb]
    exact e
/-- Three rows of fractions of the call's own, apart from each other. -/
structure ThreeAt (V W : World) (vp vq vy : Value) (tp tq ty : List Tri) (P Q Y : List Rat) : Prop where
  p : FsAt V W V.heap.size vp tp P
  q : FsAt V W V.heap.size vq tq Q
  y : FsAt V W V.heap.size vy ty Y
  pq : ∀ k, vp.ownBlock = some k → vq.ownBlock ≠ some k
  qy : ∀ k, vq.ownBlock = some k → vy.ownBlock ≠ some k
  yp : ∀ k, vy.ownBlock = some k → vp.ownBlock ≠ some k
theorem ThreeAt.rot {V W : World} {vp vq vy : Value} {tp tq ty : List Tri} {P Q Y : List Rat} (h : ThreeAt V W vp vq vy tp tq ty P Q Y) : ThreeAt V W vq vy vp tq ty tp Q Y P := ⟨h.q, h.y, h.p, h.qy, h.yp, h.pq⟩
theorem ThreeAt.keep {V W W' : World} {vp vq vy : Value} {tp tq ty : List Tri} {P Q Y : List Rat} (h : ThreeAt V W vp vq vy tp tq ty P Q Y) (hb : Below W.heap.size W W') : ThreeAt V W' vp vq vy tp tq ty P Q Y := ⟨h.p.keep hb, h.q.keep hb, h.y.keep hb, h.pq, h.qy, h.yp⟩
theorem ThreeAt.start (V : World) (P Q Y : List Rat) : ThreeAt V V (.slice none 0 0) (.slice none 0 0) (.slice none 0 0) [] [] [] P Q Y :=
  ⟨FsAt.start V _, FsAt.start V _, FsAt.start V _, fun k h => (by cases h), fun k h => (by cases h), fun k h => (by cases h)⟩
theorem ThreeAt.push {V W w' : World} {vp vq vy : Value} {tp tq ty : List Tri} {P Q Y : List Rat} {t : Tri} {g cap : Nat} (h : ThreeAt V W vp vq vy tp tq ty P Q Y) (ht : RatIs W t.val P[tp.length]!)
    (own : w'.ownsRow V.heap.size 35 3 (.slice (some ⟨g, 0, none⟩) (tp.length + 1) cap) (tp.length + 1) (tcells tp ++ t.cells)) (grow : W.grownBy w' vp.ownBlock) (hat : vp.ownBlock = some g ∨ g = W.heap.size) (hno : Wordless w' g) : ThreeAt V w' (.slice (some ⟨g, 0, none⟩) (tp.length + 1) cap) vq vy (tp ++ [t]) tq ty P Q Y := by
  have hp := h.p.push ht own grow hno h.p.bl.size
  have fresh : ∀ {v : Value} {ts : List Tri} {X : List Rat}, FsAt V W V.heap.size v ts X → (∀ k, vp.ownBlock = some k → v.ownBlock ≠ some k) → v.ownBlock ≠ some g := fun hv hne e => by
    rcases hat with h' | h'
    · exact hne g h' e
    · have := (ownsR_block hv.own g e).2
      omega
  refine ⟨hp, h.q.apart grow (fun k hk e => h.pq k e hk) h.p.no hp.bl, h.y.apart grow (fun k hk e => h.yp k hk e) h.p.no hp.bl, fun k hk e => ?_, h.qy, fun k hk e => ?_⟩
  · obtain rfl : g = k := Option.some.inj hk
    exact fresh h.q h.pq e
  · obtain rfl : g = k := Option.some.inj e
    exact fresh h.y (fun k hk e => h.yp k e hk) hk
end Go.Proofs.YtgpolilpgkhlkaaDoor
