/- What one period costs is K-convex: the law's walk. -/
import Derived.Test.YtohkmkoklhnnlaaGreatDoorO14
import Derived.Test.YtohkmkoklhnnlaaGreatDoorO5
import Derived.Test.YtohkmkoklhnnlaaGreatDoorK1
namespace Go.Proofs.YtohkmkoklhnnlaaGreatDoor
open Go.RowKit Go.Sort Go.Shelf

theorem rsum_cvx {qs : List Rat} {F0 F1 F2 : Nat → Rat} (hq : ∀ j, j < qs.length → 0 ≤ qs[j]!) (h : ∀ j, F1 j - F0 j ≤ F2 j - F1 j) : ∀ k, k ≤ qs.length → rsum qs F1 k - rsum qs F0 k ≤ rsum qs F2 k - rsum qs F1 k
  | 0, _ => by show (0 : Rat) - 0 ≤ 0 - 0; exact Rat.le_refl
  | k + 1, hk => by
    have ih := rsum_cvx hq h k (by omega)
    have h1 := Rat.mul_le_mul_of_nonneg_left (h k) (hq k (by omega))
    show rsum qs F1 k + qs[k]! * F1 k - (rsum qs F0 k + qs[k]! * F0 k) ≤ rsum qs F2 k + qs[k]! * F2 k - (rsum qs F1 k + qs[k]! * F1 k)
    grind
theorem cvI_cvx {L S : Int} (hL : 0 ≤ L) (hS : 0 ≤ S) (y : Int) (j : Nat) : cvI L S (y + 1) j - cvI L S y j ≤ cvI L S (y + 2) j - cvI L S (y + 1) j := by
  have h1 := Int.mul_le_mul_of_nonneg_left (show 2 * max (y + 1 - (j : Int)) 0 ≤ max (y - (j : Int)) 0 + max (y + 2 - (j : Int)) 0 by omega) hL
  have h2 := Int.mul_le_mul_of_nonneg_left (show 2 * max ((j : Int) - (y + 1)) 0 ≤ max ((j : Int) - y) 0 + max ((j : Int) - (y + 2)) 0 by omega) hS
  unfold cvI
  rw [Int.mul_add] at h1 h2
  have e1 : L * (2 * max (y + 1 - (j : Int)) 0) = 2 * (L * max (y + 1 - (j : Int)) 0) := by rw [← Int.mul_assoc, Int.mul_comm L 2, Int.mul_assoc]
  have e2 : S * (2 * max ((j : Int) - (y + 1)) 0) = 2 * (S * max ((j : Int) - (y + 1)) 0) := by rw [← Int.mul_assoc, Int.mul_comm S 2, Int.mul_assoc]
  omega
theorem pH_cvx {qs : List Rat} {E L S : Int} (hq : ∀ j, j < qs.length → 0 ≤ qs[j]!) (hL : 0 ≤ L) (hS : 0 ≤ S) : Sto.Cvx (pH qs (fun _ => 0) E L S) 80 := ⟨fun i _ => by
  have h1 := rsum_cvx (F0 := bhR (fun _ => 0) L S ((i : Int) - 40)) (F1 := bhR (fun _ => 0) L S ((i : Int) - 40 + 1)) (F2 := bhR (fun _ => 0) L S ((i : Int) - 40 + 2)) hq (fun j => by
    have h := cvI_cvx hL hS ((i : Int) - 40) j
    have h' : ((cvI L S ((i : Int) - 40 + 1) j - cvI L S ((i : Int) - 40) j : Int) : Rat) ≤ ((cvI L S ((i : Int) - 40 + 2) j - cvI L S ((i : Int) - 40 + 1) j : Int) : Rat) := Rat.intCast_le_intCast.2 h
    rw [Rat.intCast_sub, Rat.intCast_sub] at h'
    unfold bhR
    grind) qs.length (Nat.le_refl _)
  have e1 : ((i + 1 : Nat) : Int) - 40 = (i : Int) - 40 + 1 := by omega
  have e2 : ((i + 2 : Nat) : Int) - 40 = (i : Int) - 40 + 2 := by omega
  have m1 : ((E * ((i : Int) - 40 + 1) : Int) : Rat) = ((E * ((i : Int) - 40) : Int) : Rat) + ((E : Int) : Rat) := by rw [Int.mul_add, Rat.intCast_add, Int.mul_one]
  have m2 : ((E * ((i : Int) - 40 + 2) : Int) : Rat) = ((E * ((i : Int) - 40) : Int) : Rat) + ((E : Int) : Rat) + ((E : Int) : Rat) := by rw [show (i : Int) - 40 + 2 = (i : Int) - 40 + 1 + 1 by omega, Int.mul_add, Rat.intCast_add, Int.mul_one, m1]
  unfold pH prV havV
  rw [e1, e2, m1, m2]
  grind⟩
theorem convex_alg {u c l β ι α κ ε τ : Rat} (be : β * ι = 1) (h2 : α * (c - l) * ι ≤ β * (κ + u - c) * ι) : 0 ≤ κ + (u - (τ + ε * α)) - (c - τ) - α * ((c - τ - (l - (τ - ε * β))) * ι) := by
  have e3 : β * (κ + u - c) * ι = κ + u - c := by grind
  rw [e3] at h2
  have e4 : κ + (u - (τ + ε * α)) - (c - τ) - α * ((c - τ - (l - (τ - ε * β))) * ι) = κ + u - c - α * (c - l) * ι := by grind
  rw [e4]
  grind
/-- What the law asks. -/
theorem convex_last {qs : List Rat} {F E L S : Int} {x a b : Nat} (hq : ∀ j, j < qs.length → 0 ≤ qs[j]!) (hL : 0 ≤ L) (hS : 0 ≤ S) (hF : 0 ≤ F) (ha : x + a ≤ 80) (hb : b ≤ x) (ha0 : 0 < a) (hb0 : 0 < b) :
    0 ≤ ((F : Int) : Rat) + cO qs (fun _ => 0) F E L S (x + a) - cO qs (fun _ => 0) F E L S x - ((a : Int) : Rat) * ((cO qs (fun _ => 0) F E L S x - cO qs (fun _ => 0) F E L S (x - b)) / ((b : Int) : Rat)) := by
  have hK : (0 : Rat) ≤ ((F : Int) : Rat) := by
    have : ((0 : Int) : Rat) ≤ ((F : Int) : Rat) := Rat.intCast_le_intCast.2 hF
    exact this
  have sc := Sto.scarf (pH_cvx (E := E) hq hL hS) hK ha hb ha0 hb0
  have bp : (0 : Rat) < ((b : Int) : Rat) := by
    have : ((0 : Int) : Rat) < ((b : Int) : Rat) := Rat.intCast_lt_intCast.2 (by omega)
    exact this
  have bi := Rat.inv_pos.2 bp
  have be : ((b : Int) : Rat) * ((b : Int) : Rat)⁻¹ = 1 := Rat.mul_inv_cancel _ (fun h => by rw [h] at bp; exact absurd bp (by decide))
  have m1 : ((E * (((x + a : Nat) : Int) - 40) : Int) : Rat) = ((E * ((x : Int) - 40) : Int) : Rat) + ((E : Int) : Rat) * ((a : Int) : Rat) := by rw [show ((x + a : Nat) : Int) - 40 = (x : Int) - 40 + (a : Int) by omega, Int.mul_add, Rat.intCast_add, Rat.intCast_mul E (a : Int)]
  have m2 : ((E * (((x - b : Nat) : Int) - 40) : Int) : Rat) = ((E * ((x : Int) - 40) : Int) : Rat) - ((E : Int) : Rat) * ((b : Int) : Rat) := by rw [show ((x - b : Nat) : Int) - 40 = (x : Int) - 40 - (b : Int) by omega, Int.mul_sub, Rat.intCast_sub, Rat.intCast_mul E (b : Int)]
  have h2 := Rat.mul_le_mul_of_nonneg_right sc (Rat.le_of_lt bi)
  unfold cO
  rw [m1, m2, Rat.div_def]
  generalize Sto.cst (pH qs (fun _ => 0) E L S) ((F : Int) : Rat) 80 (x + a) = u at *
  generalize Sto.cst (pH qs (fun _ => 0) E L S) ((F : Int) : Rat) 80 x = c at *
  generalize Sto.cst (pH qs (fun _ => 0) E L S) ((F : Int) : Rat) 80 (x - b) = l at *
  generalize ((b : Int) : Rat) = β at *
  generalize β⁻¹ = ι at *
  generalize ((a : Int) : Rat) = α at *
  generalize ((F : Int) : Rat) = κ at *
  generalize ((E : Int) : Rat) = ε at *
  generalize ((E * ((x : Int) - 40) : Int) : Rat) = τ at *
  exact convex_alg be h2
theorem law_get {W : World} {gC n c : Nat} {qs : List Rat} (h : LawIs W (.slice (some ⟨gC, 0, none⟩) n c) qs) {j : Nat} (hj : j < qs.length) : gC < W.heap.size ∧ ∃ t : Tri, (W.cell? ⟨gC, j * 3, none⟩ = some (.bool t.s) ∧ W.cell? ⟨gC, j * 3 + 1, none⟩ = some (.slice t.a1 t.n1 t.c1) ∧ W.cell? ⟨gC, j * 3 + 2, none⟩ = some (.slice t.a2 t.n2 t.c2)) ∧ RatIs W t.val qs[j]! := by
  obtain ⟨a, c', e, h1, h2, h3⟩ := h
  obtain ⟨b, o, ea, hlt, hc⟩ := h3 (by omega)
  injection e with e1 e2 e3
  rw [ea] at e1
  injection e1 with e1
  injection e1 with e1 e4
  subst e1 e4
  obtain ⟨s, a1, a2, n1, c1, n2, c2, k0, k1, k2, r⟩ := hc j hj
  rw [Nat.zero_add] at k0 k1 k2
  exact ⟨hlt, ⟨s, a1, a2, n1, c1, n2, c2⟩, ⟨k0, k1, k2⟩, r⟩
theorem cO_RS {qs : List Rat} {F E L S : Int} (hlen : qs.length ≤ 101) (hF : 0 ≤ F ∧ F ≤ 1000) (hL : 0 ≤ L ∧ L ≤ 1000) (hS : 0 ≤ S ∧ S ≤ 1000) (hE : 0 ≤ E ∧ E ≤ 1000) (hq : ∀ j, j < qs.length → RS qs[j]! 1) (i : Nat) (hi : i ≤ 80) : RS (cO qs (fun _ => 0) F E L S i) 120000000 := by
  have hp := pH_RS (B := fun _ => 0) (JB := 1) hlen hL hS hE hq (fun _ _ _ => RS.zero) (by decide)
  have hc : RS (Sto.cst (pH qs (fun _ => 0) E L S) ((F : Int) : Rat) 80 i) 110000002 := by
    unfold Sto.cst
    split
    · exact ((hp _ (Sto.bst_in _ 80 (80 - i) (by omega)).1).add (whole_RS (x := F) ⟨by omega, by omega⟩)).mono (by omega)
    · exact (hp i hi).mono (by omega)
  have h2 : -40000 ≤ E * ((i : Int) - 40) ∧ E * ((i : Int) - 40) ≤ 40000 := by
    rcases Int.le_total 0 ((i : Int) - 40) with c | c
    · have := mulB hE.1 hE.2 c (show (i : Int) - 40 ≤ 40 by omega); omega
    · have := mulB hE.1 hE.2 (show 0 ≤ -((i : Int) - 40) by omega) (show -((i : Int) - 40) ≤ 40 by omega)
      rw [Int.mul_neg] at this
      omega
  exact (RS.sub' hc (whole_RS (x := E * ((i : Int) - 40)) ⟨by omega, by omega⟩)).mono (by omega)
/-- 3 calls one behind the other, the last one with an error beside it, and a box. -/
structure CvJ (q1 q2 q3 : Rat) (w0 : World) (c : Nat) (l : Bool) (w : World) (s1 s2 s3 s4 : Value) : Prop where
  bl : Below w0.heap.size w0 w
  r1 : 1 ≤ c → RatIs w s1 q1
  r2 : 2 ≤ c → RatIs w s2 q2
  r3 : 3 ≤ c → ∃ v, s3 = .tuple #[v, .nilIface] ∧ RatIs w v q3
  al : l = true → ∃ b, s4 = .pointer (some ⟨b, 0, none⟩) ∧ BoxIs w b zTri 0 ∧ w0.heap.size ≤ b
set_option maxHeartbeats 16000000 in
set_option maxRecDepth 100000 in
set_option linter.unusedSimpArgs false in
theorem storeConvex_any (v : Value) (ps : List (Int × Int)) (x1 x2 x3 x4 x5 x6 x7 : Int) (w : World) (htab : Tab w) (hp : PairsAre w v ps) :
    Calls Tryz.prog 3 #[v, .int .i64 x1, .int .i64 x2, .int .i64 x3, .int .i64 x4, .int .i64 x5, .int .i64 x6, .int .i64 x7] w fun e w' => e = .returned (.bool true) ∧ Below w.heap.size w w' := by
  have HP0 := hide hp
  obtain ⟨a0, c0, rfl, h1, h2, hI, h3⟩ := hp
  by_cases hlen : 6 < ps.length
  · have e1 : (6 : Int) < (ps.length : Int) := by omega
    clear h3 hI htab
    go_enter Tryz.func3, Tryz.ntmps3
    go_wp2
    go_ret
    exact ⟨rfl, Below.refl _ _⟩
  have e1 : ¬ (6 : Int) < (ps.length : Int) := by omega
  have KKe : KK = 1099511627776 := rfl
  have hql : (pqs ps).length = ps.length := pqs_length ps
  have HQS : Hid (∀ j, j < (pqs ps).length → RS (pqs ps)[j]! 1) := by
    show ∀ j, _
    intro j hj
    rw [hql] at hj
    have e : (pqs ps)[j]! = pq ps[j]! := by
      rw [getElem!_pos (pqs ps) j (by rw [hql]; exact hj), getElem!_pos ps j hj]
      simp [pqs]
    rw [e]
    exact pq_RS (hI j hj).1 (hI j hj).2
  have HLN : Hid ((pqs ps).length ≤ 6) := by show _ ≤ _; omega
  have HKK : Hid (600000000 + 600000000 + 1 ≤ KK) := by show _ ≤ _; omega
  have C1 := hide (law_any (.slice a0 ps.length c0) ps w (unhide HP0) (by omega))
  have HT := hide htab
  clear h3 hI htab KKe hql
  go_enter Tryz.func3, Tryz.ntmps3
  go_wp2_with fail
  refine (unhide C1).mono ?_
  rintro e w1 ⟨v1, rfl, hlaw, hb1⟩
  have P1 := hide (pick_any x1 60 (by decide) (by decide) w1)
  have hlaw' := hlaw
  obtain ⟨la, lc, hv1e, lh1, lh2, _⟩ := hlaw'
  obtain ⟨ln, hln⟩ : ∃ n, (pqs ps).length = n := ⟨_, rfl⟩
  rw [hln] at hv1e lh1
  subst hv1e
  have HLW := hide hlaw
  clear hln
  have HB1 := hide hb1
  clear hlaw hb1 C1
  go_wp2_with fail
  refine (unhide P1).mono ?_
  rintro e w2 ⟨F, rfl, hF, rfl⟩
  have P2 := hide (pick_any x2 5 (by decide) (by decide) w2)
  clear P1
  go_wp2_with fail
  refine (unhide P2).mono ?_
  rintro e w3 ⟨E, rfl, hE, rfl⟩
  have P3 := hide (pick_any x3 5 (by decide) (by decide) w3)
  clear P2
  go_wp2_with fail
  refine (unhide P3).mono ?_
  rintro e w4 ⟨L, rfl, hL, rfl⟩
  have P4 := hide (pick_any x4 12 (by decide) (by decide) w4)
  clear P3
  go_wp2_with fail
  refine (unhide P4).mono ?_
  rintro e w5 ⟨S, rfl, hS, rfl⟩
  have hFb : (0 : Int) ≤ (F : Int) ∧ (F : Int) ≤ 1000 := by omega
  have hEb : (0 : Int) ≤ (E : Int) ∧ (E : Int) ≤ 1000 := by omega
  have hLb : (0 : Int) ≤ (L : Int) ∧ (L : Int) ≤ 1000 := by omega
  have hSb : (0 : Int) ≤ (S : Int) ∧ (S : Int) ≤ 1000 := by omega
  have aS := alloc_below w5 (.cells #[.slice la ln lc, .int .i64 (F : Int), .int .i64 (E : Int), .int .i64 (L : Int), .int .i64 (S : Int)] 28)
  have XS : ShopAt (w5.alloc (.cells #[.slice la ln lc, .int .i64 (F : Int), .int .i64 (E : Int), .int .i64 (L : Int), .int .i64 (S : Int)] 28)) w5.heap.size (.slice la ln lc) (F : Int) (E : Int) (L : Int) (S : Int) := heap_alloc_new w5 _
  obtain ⟨W5, hW5⟩ : ∃ W, w5.alloc (.cells #[.slice la ln lc, .int .i64 (F : Int), .int .i64 (E : Int), .int .i64 (L : Int), .int .i64 (S : Int)] 28) = W := ⟨_, rfl⟩
  obtain ⟨gs, sS⟩ : ∃ g, w5.heap.size = g := ⟨_, rfl⟩
  rw [hW5] at aS XS
  rw [sS] at XS
  have C2 := hide (rules_any (.slice la ln lc) (F : Int) (E : Int) (L : Int) (S : Int) (pqs ps) W5 ((unhide HLW).below aS) (unhide HQS) (unhide HLN) hFb hEb hLb hSb)
  obtain ⟨s0, s1, s2, s3, s4⟩ := XS.cells
  have HXS := hide XS
  have HB5 := hide (below_step (unhide HB1) aS)
  have HBD : Hid (((0 : Int) ≤ (F : Int) ∧ (F : Int) ≤ 1000) ∧ ((0 : Int) ≤ (E : Int) ∧ (E : Int) ≤ 1000) ∧ ((0 : Int) ≤ (L : Int) ∧ (L : Int) ≤ 1000) ∧ ((0 : Int) ≤ (S : Int) ∧ (S : Int) ≤ 1000)) := ⟨hFb, hEb, hLb, hSb⟩
  clear P4 aS XS hF hE hL hS hFb hEb hLb hSb
  go_wp2_with fail
  clear hW5 sS s0 s1 s2 s3 s4
  refine (unhide C2).mono ?_
  rintro e w6 ⟨hb6, hr⟩
  have HB6 := hide hb6
  have C3 := hide (sold_any w6 (tab_below (tab_below (unhide HT) (unhide HB5)) hb6))
  rcases hr with ⟨hc, rfl⟩ | ⟨hc, g, gC, rfl, hcell, hgl, hrow⟩
  · obtain ⟨k, hk⟩ : ∃ k, chk (pqs ps) = k := ⟨_, rfl⟩
    rw [hk] at hc
    rw [hk]
    have q5 : (k == 0) = false := by simpa using hc
    clear hk hb6 C2
    go_wp2_with fail
    refine (unhide C3).mono ?_
    rintro e w7 ⟨rfl, hb7⟩
    have hB7 := below_step (unhide HB5) (below_step (unhide HB6) hb7)
    have C4 := hide (sold_any w7 (tab_below (unhide HT) hB7))
    have HB7 := hide hB7
    clear hb7 hB7 C3
    go_wp2_with fail
    refine (unhide C4).mono ?_
    rintro e w8 ⟨rfl, hb8⟩
    have HB8 := hide (below_step (unhide HB7) hb8)
    clear hb8 C4
    go_wp2
    go_ret
    exact ⟨rfl, unhide HB8⟩
  have HCZ := hide hc
  have HRW := hide hrow
  have HGL := hide hgl
  have HCL := hide hcell
  clear hc hrow hgl hcell hb6 C2
  go_wp2_with fail
  refine (unhide C3).mono ?_
  rintro e w7 ⟨rfl, hb7⟩
  have HB7 := hide (below_step (unhide HB6) hb7)
  have HRW7 := hide ((unhide HRW).below hb7)
  have k2 : w7.cell? ⟨g, 2, none⟩ = some (.slice (some ⟨gC, 0, none⟩) 81 81) := by rw [hb7.cell (p := ⟨g, 2, none⟩) (unhide HGL)]; exact unhide HCL
  have P5 := hide (pick_any x5 10 (by decide) (by decide) w7)
  clear hb7 C3 HRW HCL HGL HB6
  go_wp2_with fail
  refine (unhide P5).mono ?_
  rintro e w8 ⟨ka, rfl, hka, rfl⟩
  have P6 := hide (pick_any x6 10 (by decide) (by decide) w8)
  obtain ⟨a, haE⟩ : ∃ a, 1 + ka = a := ⟨_, rfl⟩
  have fa : IntKind.i64.wrap (1 + (ka : Int)) = (a : Int) := by rw [show 1 + (ka : Int) = (a : Int) by omega, IntKind.wrap_i64]; omega
  clear P5
  go_wp2_with fail
  refine (unhide P6).mono ?_
  rintro e w9 ⟨kb, rfl, hkb, rfl⟩
  obtain ⟨b, hbE⟩ : ∃ b, 1 + kb = b := ⟨_, rfl⟩
  have fb : IntKind.i64.wrap (1 + (kb : Int)) = (b : Int) := by rw [show 1 + (kb : Int) = (b : Int) by omega, IntKind.wrap_i64]; omega
  obtain ⟨n1, hn1⟩ : ∃ n, 81 - (a : Int) = n := ⟨_, rfl⟩
  obtain ⟨n2, hn2⟩ : ∃ n : Nat, 81 - a - b = n := ⟨_, rfl⟩
  have f1 : IntKind.i64.wrap (81 - (a : Int)) = n1 := by rw [hn1, IntKind.wrap_i64]; omega
  have f2 : IntKind.i64.wrap (n1 - (b : Int)) = (n2 : Int) := by rw [show n1 - (b : Int) = (n2 : Int) by omega, IntKind.wrap_i64]; omega
  have P7 := hide (pick_any x7 n2 (by omega) (by omega) w9)
  have HAB : Hid (0 < a ∧ a ≤ 10 ∧ 0 < b ∧ b ≤ 10 ∧ 81 - a - b = n2) := ⟨by omega, by omega, by omega, by omega, hn2⟩
  clear P6 haE hbE hn1 hn2 hka hkb
  go_wp2_with fail
  refine (unhide P7).mono ?_
  rintro e w10 ⟨kx, rfl, hkx, rfl⟩
  have hab := unhide HAB
  obtain ⟨x, hxE⟩ : ∃ x, b + kx = x := ⟨_, rfl⟩
  obtain ⟨xm, hxm⟩ : ∃ y, x - b = y := ⟨_, rfl⟩
  obtain ⟨xp, hxp⟩ : ∃ y, x + a = y := ⟨_, rfl⟩
  have fx : IntKind.i64.wrap ((b : Int) + (kx : Int)) = (x : Int) := by rw [show (b : Int) + (kx : Int) = (x : Int) by omega, IntKind.wrap_i64]; omega
  have fm : IntKind.i64.wrap ((x : Int) - (b : Int)) = (xm : Int) := by rw [show (x : Int) - (b : Int) = (xm : Int) by omega, IntKind.wrap_i64]; omega
  have fp : IntKind.i64.wrap ((x : Int) + (a : Int)) = (xp : Int) := by rw [show (x : Int) + (a : Int) = (xp : Int) by omega, IntKind.wrap_i64]; omega
  have lx : x < 81 := by omega
  have lm : xm < 81 := by omega
  have lp : xp < 81 := by omega
  have ix : (x : Int) < 81 := by omega
  have im : (xm : Int) < 81 := by omega
  have ip : (xp : Int) < 81 := by omega
  have jx0 : (0 : Int) ≤ (x : Int) := by omega
  have jm0 : (0 : Int) ≤ (xm : Int) := by omega
  have jp0 : (0 : Int) ≤ (xp : Int) := by omega
  obtain ⟨hgC, tx, hcx, hrx⟩ := law_get (unhide HRW7) (j := x) (by rw [rowQ_len]; exact lx)
  obtain ⟨_, tm, hcm, hrm⟩ := law_get (unhide HRW7) (j := xm) (by rw [rowQ_len]; exact lm)
  obtain ⟨_, tp, hcp, hrp⟩ := law_get (unhide HRW7) (j := xp) (by rw [rowQ_len]; exact lp)
  rw [rowQ_get _ lx] at hrx
  rw [rowQ_get _ lm] at hrm
  rw [rowQ_get _ lp] at hrp
  have bdd := unhide HBD
  have rx := cO_RS (by have := unhide HLN; omega) bdd.1 bdd.2.2.1 bdd.2.2.2 bdd.2.1 (unhide HQS) x (by omega)
  have rm := cO_RS (by have := unhide HLN; omega) bdd.1 bdd.2.2.1 bdd.2.2.2 bdd.2.1 (unhide HQS) xm (by omega)
  have rp := cO_RS (by have := unhide HLN; omega) bdd.1 bdd.2.2.1 bdd.2.2.2 bdd.2.1 (unhide HQS) xp (by omega)
  have hnn : ∀ j, j < (pqs ps).length → 0 ≤ (pqs ps)[j]! := fun j hj => Rat.num_nonneg.1 ((chk_zero (unhide HCZ)).2.2.1 j hj)
  have hlast := convex_last (E := (E : Int)) (x := x) (a := a) (b := b) hnn bdd.2.2.1.1 bdd.2.2.2.1 bdd.1.1 (by omega) (by omega) hab.1 hab.2.2.1
  rw [hxm, hxp] at hlast
  obtain ⟨fX, hfX⟩ : ∃ q, cO (pqs ps) (fun _ => 0) (F : Int) (E : Int) (L : Int) (S : Int) x = q := ⟨_, rfl⟩
  obtain ⟨fM, hfM⟩ : ∃ q, cO (pqs ps) (fun _ => 0) (F : Int) (E : Int) (L : Int) (S : Int) xm = q := ⟨_, rfl⟩
  obtain ⟨fP, hfP⟩ : ∃ q, cO (pqs ps) (fun _ => 0) (F : Int) (E : Int) (L : Int) (S : Int) xp = q := ⟨_, rfl⟩
  rw [hfX] at hrx rx hlast
  rw [hfM] at hrm rm hlast
  rw [hfP] at hrp rp hlast
  have wa : RS (((a : Nat) : Int) : Rat) 1 := whole_RS ⟨by omega, by omega⟩
  have wb : RS (((b : Nat) : Int) : Rat) 1 := whole_RS ⟨by omega, by omega⟩
  have wf : RS (((F : Nat) : Int) : Rat) 1 := whole_RS ⟨by omega, by omega⟩
  have hbz : (((b : Nat) : Int) : Rat).num ≠ 0 := by
    show ((b : Nat) : Int) ≠ 0
    omega
  have rd := RS.sub' rx rm
  have rq := RS.div' rd wb hbz
  have r1 := wf.add rp
  have r2 := RS.sub' r1 rx
  have r3 := wa.mul rq
  have HJX := hide (rx.mono (show 120000000 ≤ 600000000 by omega))
  have HJM := hide (rm.mono (show 120000000 ≤ 600000000 by omega))
  have HJP := hide (rp.mono (show 120000000 ≤ 600000000 by omega))
  have HJD := hide (rd.mono (show 120000000 + 120000000 + 1 ≤ 600000000 by omega))
  have HJB := hide (wb.mono (show 1 ≤ 600000000 by omega))
  have HJF := hide (wf.mono (show 1 ≤ 600000000 by omega))
  have HJA := hide (wa.mono (show 1 ≤ 600000000 by omega))
  have HJQ := hide (rq.mono (show 120000000 + 120000000 + 1 + 1 ≤ 600000000 by omega))
  have HJ1 := hide (r1.mono (show 1 + 120000000 + 1 ≤ 600000000 by omega))
  have HJ2 := hide (r2.mono (show 1 + 120000000 + 1 + 120000000 + 1 ≤ 600000000 by omega))
  have HJ3 := hide (r3.mono (show 1 + (120000000 + 120000000 + 1 + 1) ≤ 600000000 by omega))
  have HBZ := hide hbz
  have HWB : Hid (∀ W, Calls Tryz.prog 10 #[.int .i64 (b : Int)] W fun e w' => ∃ v, e = .returned v ∧ RatIs w' v (((b : Nat) : Int) : Rat) ∧ Below W.heap.size W w') := fun W => whole_any (b : Int) (by omega) (by omega) W
  have HWA : Hid (∀ W, Calls Tryz.prog 10 #[.int .i64 (a : Int)] W fun e w' => ∃ v, e = .returned v ∧ RatIs w' v (((a : Nat) : Int) : Rat) ∧ Below W.heap.size W w') := fun W => whole_any (a : Int) (by omega) (by omega) W
  have HWF : Hid (∀ W, Calls Tryz.prog 10 #[.int .i64 (F : Int)] W fun e w' => ∃ v, e = .returned v ∧ RatIs w' v (((F : Nat) : Int) : Rat) ∧ Below W.heap.size W w') := fun W => whole_any (F : Int) (by omega) (by omega) W
  have HRX : Hid (∀ W, Below w10.heap.size w10 W → RatIs W tx.val fX) := fun W hW => hrx.below hW
  have HRM : Hid (∀ W, Below w10.heap.size w10 W → RatIs W tm.val fM) := fun W hW => hrm.below hW
  have HRP : Hid (∀ W, Below w10.heap.size w10 W → RatIs W tp.val fP) := fun W hW => hrp.below hW
  have HSGN : Hid (0 ≤ (((F : Nat) : Int) : Rat) + fP - fX - (((a : Nat) : Int) : Rat) * ((fX - fM) / (((b : Nat) : Int) : Rat))) := hlast
  have XS7 := (unhide HXS).keep (unhide HB7)
  have HCE : Hid (∀ W', Below w10.heap.size w10 W' → W'.cell? ⟨gs, 1, none⟩ = some (.int .i64 (F : Int)) ∧ (W'.cell? ⟨gC, xp * 3, none⟩ = some (.bool tp.s) ∧ W'.cell? ⟨gC, xp * 3 + 1, none⟩ = some (.slice tp.a1 tp.n1 tp.c1) ∧ W'.cell? ⟨gC, xp * 3 + 2, none⟩ = some (.slice tp.a2 tp.n2 tp.c2)) ∧ (W'.cell? ⟨gC, x * 3, none⟩ = some (.bool tx.s) ∧ W'.cell? ⟨gC, x * 3 + 1, none⟩ = some (.slice tx.a1 tx.n1 tx.c1) ∧ W'.cell? ⟨gC, x * 3 + 2, none⟩ = some (.slice tx.a2 tx.n2 tx.c2))) := fun W' hW' => by
    refine ⟨(XS7.keep hW').cells.2.1, ⟨?_, ?_, ?_⟩, ?_, ?_, ?_⟩
    · rw [hW'.cell (p := ⟨gC, xp * 3, none⟩) hgC]; exact hcp.1
    · rw [hW'.cell (p := ⟨gC, xp * 3 + 1, none⟩) hgC]; exact hcp.2.1
    · rw [hW'.cell (p := ⟨gC, xp * 3 + 2, none⟩) hgC]; exact hcp.2.2
    · rw [hW'.cell (p := ⟨gC, x * 3, none⟩) hgC]; exact hcx.1
    · rw [hW'.cell (p := ⟨gC, x * 3 + 1, none⟩) hgC]; exact hcx.2.1
    · rw [hW'.cell (p := ⟨gC, x * 3 + 2, none⟩) hgC]; exact hcx.2.2
  have HC12 : Hid (∀ W', Below w10.heap.size w10 W' → (fun w' : World => (w'.cell? ⟨gC, x * 3, none⟩ = some (.bool tx.s) ∧ w'.cell? ⟨gC, x * 3 + 1, none⟩ = some (.slice tx.a1 tx.n1 tx.c1) ∧ w'.cell? ⟨gC, x * 3 + 2, none⟩ = some (.slice tx.a2 tx.n2 tx.c2)) ∧ w'.cell? ⟨gC, xm * 3, none⟩ = some (.bool tm.s) ∧ w'.cell? ⟨gC, xm * 3 + 1, none⟩ = some (.slice tm.a1 tm.n1 tm.c1) ∧ w'.cell? ⟨gC, xm * 3 + 2, none⟩ = some (.slice tm.a2 tm.n2 tm.c2)) W') := fun W' hW' => by
    refine ⟨(unhide HCE _ hW').2.2, ?_, ?_, ?_⟩
    · rw [hW'.cell (p := ⟨gC, xm * 3, none⟩) hgC]; exact hcm.1
    · rw [hW'.cell (p := ⟨gC, xm * 3 + 1, none⟩) hgC]; exact hcm.2.1
    · rw [hW'.cell (p := ⟨gC, xm * 3 + 2, none⟩) hgC]; exact hcm.2.2
  have HBW : Hid (∀ W', Below w10.heap.size w10 W' → Below w.heap.size w W') := fun W' hW' => below_step (unhide HB5) (below_step (unhide HB7) hW')
  clear P7 hab hxE hxm hxp lx lm lp hgC hcx hcm hcp hrx hrm hrp bdd rx rm rp hnn hlast hfX hfM hfP wa wb wf hbz rd rq r1 r2 r3 XS7 hkx
  go_wp2_with fail
  clear k2
  refine wp_region_hold (fun w' : World => (w'.cell? ⟨gC, x * 3, none⟩ = some (.bool tx.s) ∧ w'.cell? ⟨gC, x * 3 + 1, none⟩ = some (.slice tx.a1 tx.n1 tx.c1) ∧ w'.cell? ⟨gC, x * 3 + 2, none⟩ = some (.slice tx.a2 tx.n2 tx.c2)) ∧ w'.cell? ⟨gC, xm * 3, none⟩ = some (.bool tm.s) ∧ w'.cell? ⟨gC, xm * 3 + 1, none⟩ = some (.slice tm.a1 tm.n1 tm.c1) ∧ w'.cell? ⟨gC, xm * 3 + 2, none⟩ = some (.slice tm.a2 tm.n2 tm.c2)) (by kernel_rfl) ?_
  have bd0 : Below w10.heap.size w10 w10.drew := (Below.refl _ _).drew
  obtain ⟨Wx, hWx⟩ : ∃ W, w10.drew = W := ⟨_, rfl⟩
  rw [hWx] at bd0 ⊢
  have hC0 : (fun w' : World => (w'.cell? ⟨gC, x * 3, none⟩ = some (.bool tx.s) ∧ w'.cell? ⟨gC, x * 3 + 1, none⟩ = some (.slice tx.a1 tx.n1 tx.c1) ∧ w'.cell? ⟨gC, x * 3 + 2, none⟩ = some (.slice tx.a2 tx.n2 tx.c2)) ∧ w'.cell? ⟨gC, xm * 3, none⟩ = some (.bool tm.s) ∧ w'.cell? ⟨gC, xm * 3 + 1, none⟩ = some (.slice tm.a1 tm.n1 tm.c1) ∧ w'.cell? ⟨gC, xm * 3 + 2, none⟩ = some (.slice tm.a2 tm.n2 tm.c2)) Wx := unhide HC12 _ bd0
  refine wpHold_take (i := 0) (v := ?_) rfl (by kernel_rfl) (by kernel_rfl) (by kernel_rfl) (fun _ _ _ h => h) (Or.inl ⟨by rfl, ?_⟩) hC0 ?_
  rotate_left
  · intro w hSw; clear hSw; go_simp; (try with_reducible rfl)
  (try simp only [List.getElem_toArray, List.getElem_cons_succ, List.getElem_cons_zero])
  (try simp only [Act.put, List.setIfInBounds_toArray, List.set_cons_zero, List.set_cons_succ])
  refine wpHold_take (i := 1) (v := ?_) rfl (by kernel_rfl) (by kernel_rfl) (by kernel_rfl) (fun _ _ _ h => h) (Or.inl ⟨by rfl, ?_⟩) hC0 ?_
  rotate_left
  · intro w hSw; clear hSw; go_simp; (try with_reducible rfl)
  (try simp only [List.getElem_toArray, List.getElem_cons_succ, List.getElem_cons_zero])
  (try simp only [Act.put, List.setIfInBounds_toArray, List.set_cons_zero, List.set_cons_succ])
  refine wpHold_take (i := 2) (v := ?_) rfl (by kernel_rfl) (by kernel_rfl) (by kernel_rfl) (fun _ _ _ h => h) (Or.inl ⟨by rfl, ?_⟩) hC0 ?_
  rotate_left
  · intro w hSw; clear hSw; go_simp; (try with_reducible rfl)
  (try simp only [List.getElem_toArray, List.getElem_cons_succ, List.getElem_cons_zero])
  (try simp only [Act.put, List.setIfInBounds_toArray, List.set_cons_zero, List.set_cons_succ])
  refine wpHold_take (i := 3) (v := ?_) rfl (by kernel_rfl) (by kernel_rfl) (by kernel_rfl) (fun _ _ _ h => h) (Or.inl ⟨by rfl, ?_⟩) hC0 ?_
  rotate_left
  · intro w hSw; (try dsimp only at hSw); obtain ⟨⟨z0, z1, z2⟩, z3, z4, z5⟩ := hSw; go_simp; (try with_reducible rfl)
  (try simp only [List.getElem_toArray, List.getElem_cons_succ, List.getElem_cons_zero])
  (try simp only [Act.put, List.setIfInBounds_toArray, List.set_cons_zero, List.set_cons_succ])
  refine wpHold_take (i := 4) (v := ?_) rfl (by kernel_rfl) (by kernel_rfl) (by kernel_rfl) (fun _ _ _ h => h) (Or.inl ⟨by rfl, ?_⟩) hC0 ?_
  rotate_left
  · intro w hSw; clear hSw; go_simp; (try with_reducible rfl)
  (try simp only [List.getElem_toArray, List.getElem_cons_succ, List.getElem_cons_zero])
  (try simp only [Act.put, List.setIfInBounds_toArray, List.set_cons_zero, List.set_cons_succ])
  refine wpHold_take (i := 5) (v := ?_) rfl (by kernel_rfl) (by kernel_rfl) (by kernel_rfl) (fun _ _ _ h => h) (Or.inl ⟨by rfl, ?_⟩) hC0 ?_
  rotate_left
  · intro w hSw; clear hSw; go_simp; (try with_reducible rfl)
  (try simp only [List.getElem_toArray, List.getElem_cons_succ, List.getElem_cons_zero])
  (try simp only [Act.put, List.setIfInBounds_toArray, List.set_cons_zero, List.set_cons_succ])
  refine wpHold_take (i := 6) (v := ?_) rfl (by kernel_rfl) (by kernel_rfl) (by kernel_rfl) (fun _ _ _ h => h) (Or.inl ⟨by rfl, ?_⟩) hC0 ?_
  rotate_left
  · intro w hSw; clear hSw; go_simp; (try with_reducible rfl)
  (try simp only [List.getElem_toArray, List.getElem_cons_succ, List.getElem_cons_zero])
  (try simp only [Act.put, List.setIfInBounds_toArray, List.set_cons_zero, List.set_cons_succ])
  refine wpHold_take (i := 7) (v := ?_) rfl (by kernel_rfl) (by kernel_rfl) (by kernel_rfl) (fun _ _ _ h => h) (Or.inl ⟨by rfl, ?_⟩) hC0 ?_
  rotate_left
  · intro w hSw; clear hSw; go_simp; (try with_reducible rfl)
  (try simp only [List.getElem_toArray, List.getElem_cons_succ, List.getElem_cons_zero])
  (try simp only [Act.put, List.setIfInBounds_toArray, List.set_cons_zero, List.set_cons_succ])
  refine wpHold_take (i := 8) (v := ?_) rfl (by kernel_rfl) (by kernel_rfl) (by kernel_rfl) (fun _ _ _ h => h) (Or.inl ⟨by rfl, ?_⟩) hC0 ?_
  rotate_left
  · intro w hSw; clear hSw; go_simp; (try with_reducible rfl)
  (try simp only [List.getElem_toArray, List.getElem_cons_succ, List.getElem_cons_zero])
  (try simp only [Act.put, List.setIfInBounds_toArray, List.set_cons_zero, List.set_cons_succ])
  refine wpHold_take (i := 9) (v := ?_) rfl (by kernel_rfl) (by kernel_rfl) (by kernel_rfl) (fun _ _ _ h => h) (Or.inl ⟨by rfl, ?_⟩) hC0 ?_
  rotate_left
  · intro w hSw; (try dsimp only at hSw); obtain ⟨⟨z0, z1, z2⟩, z3, z4, z5⟩ := hSw; go_simp; (try with_reducible rfl)
  (try simp only [List.getElem_toArray, List.getElem_cons_succ, List.getElem_cons_zero])
  (try simp only [Act.put, List.setIfInBounds_toArray, List.set_cons_zero, List.set_cons_succ])
  refine wpHold_take (i := 11) (v := ?_) rfl (by kernel_rfl) (by kernel_rfl) (by kernel_rfl) (fun _ _ _ h => h) (Or.inl ⟨by rfl, ?_⟩) hC0 ?_
  rotate_left
  · intro w hSw; clear hSw; go_simp; (try with_reducible rfl)
  (try simp only [List.getElem_toArray, List.getElem_cons_succ, List.getElem_cons_zero])
  (try simp only [Act.put, List.setIfInBounds_toArray, List.set_cons_zero, List.set_cons_succ])
  refine wpHold_listed (n := 9) (L' := (fun nc nl => #[true, true, true, true, true, true, true, true, true, true, decide (1 ≤ nc), true, decide (2 ≤ nc), decide (3 ≤ nc), false, false, false, nl, false, false]) 0 false) (by kernel_rfl) (by kernel_rfl) ?_
  refine wpHold_name (fun a0 ha0 => ?_)
  refine chain_fin 3 (fun nc nl => #[true, true, true, true, true, true, true, true, true, true, decide (1 ≤ nc), true, decide (2 ≤ nc), decide (3 ≤ nc), false, false, false, nl, false, false]) (fun nc => match nc with | 0 => 10 | 1 => 12 | _ => 13) 17 5 (fun nc nl na W => ∃ s1 s2 s3 s4, na = (((a0.put (some 95) s1).put (some 97) s2).put (some 98) s3).put (some 22) s4 ∧ CvJ (fX - fM) (((b : Int) : Rat)) ((fX - fM) / ((b : Int) : Rat)) Wx nc nl W s1 s2 s3 s4) ?_ ?_ ?_ ?_ ?_ ?_ ?_ 4 0 false (by omega) (by rfl) _ _ ⟨undef, undef, undef, undef, by subst ha0; rfl, Below.refl _ _, fun h => absurd h (by decide), fun h => absurd h (by decide), fun h => absurd h (by decide), fun h => by cases h⟩
  · clear ha0
    intro nc nl hnc
    match nc, hnc with
    | 0, _ => cases nl <;> (show (_ : Bool) = _; kernel_rfl)
    | 1, _ => cases nl <;> (show (_ : Bool) = _; kernel_rfl)
    | 2, _ => cases nl <;> (show (_ : Bool) = _; kernel_rfl)
  · clear ha0
    intro nc nl hnc
    match nc, hnc with
    | 0, _ => cases nl <;> (show (_ : Bool) = _; kernel_rfl)
    | 1, _ => cases nl <;> (show (_ : Bool) = _; kernel_rfl)
    | 2, _ => cases nl <;> (show (_ : Bool) = _; kernel_rfl)
  · clear ha0
    intro nc nl hnc
    match nc, hnc with
    | 0, _ => rfl
    | 1, _ => rfl
    | 2, _ => rfl
  · clear ha0
    intro nc hnc
    match nc, hnc with
    | 0, _ => rfl
    | 1, _ => rfl
    | 2, _ => rfl
  · rintro nc nl na wv hnc ⟨s1, s2, s3, s4, rfl, J⟩
    subst ha0
    match nc, hnc, J with
    | 0, _, J =>
      refine wpOp_step rfl (fun K hK => ?_)
      (try simp only [Act.put, List.setIfInBounds_toArray, List.set_cons_zero, List.set_cons_succ] at hK ⊢)
      (try simp only [List.getElem_toArray, List.getElem_cons_succ, List.getElem_cons_zero])
      go_simp
      refine (subR_any _ _ _ _ _ (unhide HRX _ (below_step bd0 J.bl)) (unhide HRM _ (below_step bd0 J.bl)) 600000000 (unhide HJX) (unhide HJM) (unhide HKK)).mono ?_
      rintro e wz ⟨v, rfl, hv, hb⟩
      exact hK _ _ ⟨unhide HC12 _ (below_step bd0 (below_step J.bl hb)), v, s2, s3, s4, rfl, below_step J.bl hb, fun _ => hv, fun h => absurd h (by decide), fun h => absurd h (by decide), fun h => by
        obtain ⟨b, e1, e2, e3⟩ := J.al h
        exact ⟨b, e1, e2.keep hb, e3⟩⟩
    | 1, _, J =>
      refine wpOp_step rfl (fun K hK => ?_)
      (try simp only [Act.put, List.setIfInBounds_toArray, List.set_cons_zero, List.set_cons_succ] at hK ⊢)
      (try simp only [List.getElem_toArray, List.getElem_cons_succ, List.getElem_cons_zero])
      go_simp
      refine (unhide HWB _).mono ?_
      rintro e wz ⟨v, rfl, hv, hb⟩
      exact hK _ _ ⟨unhide HC12 _ (below_step bd0 (below_step J.bl hb)), s1, v, s3, s4, rfl, below_step J.bl hb, fun _ => (J.r1 (by decide)).below hb, fun _ => hv, fun h => absurd h (by decide), fun h => by
        obtain ⟨b, e1, e2, e3⟩ := J.al h
        exact ⟨b, e1, e2.keep hb, e3⟩⟩
    | 2, _, J =>
      refine wpOp_step rfl (fun K hK => ?_)
      (try simp only [Act.put, List.setIfInBounds_toArray, List.set_cons_zero, List.set_cons_succ] at hK ⊢)
      (try simp only [List.getElem_toArray, List.getElem_cons_succ, List.getElem_cons_zero])
      go_simp
      refine (divR_any _ _ _ _ _ (J.r1 (by decide)) (J.r2 (by decide)) 600000000 (unhide HJD) (unhide HJB) (unhide HKK) (unhide HBZ)).mono ?_
      rintro e wz ⟨v, rfl, hv, hb⟩
      exact hK _ _ ⟨unhide HC12 _ (below_step bd0 (below_step J.bl hb)), s1, s2, .tuple #[v, .nilIface], s4, rfl, below_step J.bl hb, fun _ => (J.r1 (by decide)).below hb, fun _ => (J.r2 (by decide)).below hb, fun _ => ⟨v, rfl, hv⟩, fun h => by
        obtain ⟨b, e1, e2, e3⟩ := J.al h
        exact ⟨b, e1, e2.keep hb, e3⟩⟩
  · rintro nc na wv hnc ⟨s1, s2, s3, s4, rfl, J⟩
    subst ha0
    refine wpOp_step rfl (fun K hK => ?_)
    (try simp only [Act.put, List.setIfInBounds_toArray, List.set_cons_zero, List.set_cons_succ] at hK ⊢)
    (try simp only [List.getElem_toArray, List.getElem_cons_succ, List.getElem_cons_zero])
    go_simp
    have hb := alloc_below wv (.cells #[.bool false, .slice none 0 0, .slice none 0 0] 40)
    exact hK _ _ ⟨unhide HC12 _ (below_step bd0 (below_step J.bl hb)), s1, s2, s3, .pointer (some ⟨wv.heap.size, 0, none⟩), rfl, below_step J.bl hb, fun h => (J.r1 h).below hb, fun h => (J.r2 h).below hb, fun h => by obtain ⟨v, e1, e2⟩ := J.r3 h; exact ⟨v, e1, e2.below hb⟩, fun _ => ⟨wv.heap.size, rfl, BoxIs.new (t := zTri) (rat_zero _), J.bl.size⟩⟩
  · rintro nl na wv ⟨s1, s2, s3, s4, rfl, J⟩
    subst ha0
    obtain ⟨v_, rfl, hv_⟩ := J.r3 (by decide)
    obtain ⟨tt, rfl, r0⟩ := tri_of hv_
    simp only [Tri.val]
    (try simp only [Act.put, List.setIfInBounds_toArray, List.set_cons_zero, List.set_cons_succ])
    have hCv : (fun w' : World => (w'.cell? ⟨gC, x * 3, none⟩ = some (.bool tx.s) ∧ w'.cell? ⟨gC, x * 3 + 1, none⟩ = some (.slice tx.a1 tx.n1 tx.c1) ∧ w'.cell? ⟨gC, x * 3 + 2, none⟩ = some (.slice tx.a2 tx.n2 tx.c2)) ∧ w'.cell? ⟨gC, xm * 3, none⟩ = some (.bool tm.s) ∧ w'.cell? ⟨gC, xm * 3 + 1, none⟩ = some (.slice tm.a1 tm.n1 tm.c1) ∧ w'.cell? ⟨gC, xm * 3 + 2, none⟩ = some (.slice tm.a2 tm.n2 tm.c2)) wv := unhide HC12 _ (below_step bd0 J.bl)
    clear hC0
    cases nl with
    | true =>
      obtain ⟨gt, rfl, B10, e10⟩ := J.al rfl
      refine wpHold_take (i := 14) (v := ?_) rfl (by kernel_rfl) (by kernel_rfl) (by kernel_rfl) (fun _ _ _ h => h) (Or.inl ⟨by rfl, ?_⟩) hCv ?_
      rotate_left
      · intro w hSw; clear hSw; go_simp; (try with_reducible rfl)
      (try simp only [List.getElem_toArray, List.getElem_cons_succ, List.getElem_cons_zero])
      (try simp only [Act.put, List.setIfInBounds_toArray, List.set_cons_zero, List.set_cons_succ])
      refine wpHold_take (i := 15) (v := ?_) rfl (by kernel_rfl) (by kernel_rfl) (by kernel_rfl) (fun _ _ _ h => h) (Or.inl ⟨by rfl, ?_⟩) hCv ?_
      rotate_left
      · intro w hSw; clear hSw; go_simp; (try with_reducible rfl)
      (try simp only [List.getElem_toArray, List.getElem_cons_succ, List.getElem_cons_zero])
      (try simp only [Act.put, List.setIfInBounds_toArray, List.set_cons_zero, List.set_cons_succ])
      refine wpHold_take (i := 16) (v := ?_) rfl (by kernel_rfl) (by kernel_rfl) (by kernel_rfl) (fun _ _ _ h => h) (Or.inl ⟨by rfl, ?_⟩) hCv ?_
      rotate_left
      · intro w hSw; clear hSw; go_simp; (try with_reducible rfl)
      (try simp only [List.getElem_toArray, List.getElem_cons_succ, List.getElem_cons_zero])
      (try simp only [Act.put, List.setIfInBounds_toArray, List.set_cons_zero, List.set_cons_succ])
      have ⟨l0, l1, l2⟩ := B10.free
      have ⟨k0, k1, k2⟩ := B10.cells _ (Below.refl _ _)
      have NB := B10.set r0
      have e10' : w10.heap.size ≤ gt := Nat.le_trans bd0.size e10
      have YB := (((below_step bd0 J.bl).setCell (p := ⟨gt, 0, none⟩) e10' (.bool tt.s)).setCell (p := ⟨gt, 1, none⟩) e10' (.slice tt.a1 tt.n1 tt.c1)).setCell (p := ⟨gt, 2, none⟩) e10' (.slice tt.a2 tt.n2 tt.c2)
      have HG_gt := hide e10'
      have hCn : (fun w' : World => (w'.cell? ⟨gC, x * 3, none⟩ = some (.bool tx.s) ∧ w'.cell? ⟨gC, x * 3 + 1, none⟩ = some (.slice tx.a1 tx.n1 tx.c1) ∧ w'.cell? ⟨gC, x * 3 + 2, none⟩ = some (.slice tx.a2 tx.n2 tx.c2)) ∧ w'.cell? ⟨gC, xm * 3, none⟩ = some (.bool tm.s) ∧ w'.cell? ⟨gC, xm * 3 + 1, none⟩ = some (.slice tm.a1 tm.n1 tm.c1) ∧ w'.cell? ⟨gC, xm * 3 + 2, none⟩ = some (.slice tm.a2 tm.n2 tm.c2)) _ := unhide HC12 _ YB
      obtain ⟨Wgt, hWy⟩ : ∃ W, ((wv.setCell ⟨gt, 0, none⟩ (.bool tt.s)).setCell ⟨gt, 1, none⟩ (.slice tt.a1 tt.n1 tt.c1)).setCell ⟨gt, 2, none⟩ (.slice tt.a2 tt.n2 tt.c2) = W := ⟨_, rfl⟩
      rw [hWy] at NB YB hCn
      have HX_gt := hide NB
      have HY_gt := hide YB
      clear J B10 YB NB e10' hCv
      refine wpHold_one (k := 18) (by kernel_rfl) rfl (fun K hK => ?_)
      (try simp only [List.getElem_toArray, List.getElem_cons_succ, List.getElem_cons_zero])
      go_simp
      refine hK.out _ _ hCn ?_
      clear hK K
      (try simp only [Act.put, List.setIfInBounds_toArray, List.set_cons_zero, List.set_cons_succ])
      refine wpHold_one (k := 19) (by kernel_rfl) rfl (fun K hK => ?_)
      (try simp only [List.getElem_toArray, List.getElem_cons_succ, List.getElem_cons_zero])
      go_simp
      refine hK.out _ _ hCn ?_
      clear hK K
      (try simp only [Act.put, List.setIfInBounds_toArray, List.set_cons_zero, List.set_cons_succ])
      refine wpHold_done (by kernel_rfl) ?_ _
      clear hCn l0 l1 l2 k0 k1 k2 hWy e10 bd0 hWx r0 hv_
      have HYT := hide (unhide HY_gt)
      have HXT := hide (unhide HX_gt).2
      have HC13 : Hid (∀ W', Below Wgt.heap.size Wgt W' → (fun w' : World => w'.cell? ⟨gs, 1, none⟩ = some (.int .i64 (F : Int)) ∧ (w'.cell? ⟨gC, xp * 3, none⟩ = some (.bool tp.s) ∧ w'.cell? ⟨gC, xp * 3 + 1, none⟩ = some (.slice tp.a1 tp.n1 tp.c1) ∧ w'.cell? ⟨gC, xp * 3 + 2, none⟩ = some (.slice tp.a2 tp.n2 tp.c2)) ∧ (w'.cell? ⟨gC, x * 3, none⟩ = some (.bool tx.s) ∧ w'.cell? ⟨gC, x * 3 + 1, none⟩ = some (.slice tx.a1 tx.n1 tx.c1) ∧ w'.cell? ⟨gC, x * 3 + 2, none⟩ = some (.slice tx.a2 tx.n2 tx.c2)) ∧ w'.cell? ⟨gt, 0, none⟩ = some (.bool tt.s) ∧ w'.cell? ⟨gt, 1, none⟩ = some (.slice tt.a1 tt.n1 tt.c1) ∧ w'.cell? ⟨gt, 2, none⟩ = some (.slice tt.a2 tt.n2 tt.c2)) W') := fun W' hW' => by
        have k := unhide HCE _ (below_step (unhide HY_gt) hW')
        have q := (unhide HX_gt).cells _ hW'
        exact ⟨k.1, k.2.1, k.2.2, q⟩
      have HBF : Hid (∀ W', Below Wgt.heap.size Wgt W' → Below w.heap.size w W') := fun W' hW' => unhide HBW _ (below_step (unhide HY_gt) hW')
      clear HX_gt HY_gt HG_gt
      go_wp2_with fail
      refine wp_region_hold (fun w' : World => w'.cell? ⟨gs, 1, none⟩ = some (.int .i64 (F : Int)) ∧ (w'.cell? ⟨gC, xp * 3, none⟩ = some (.bool tp.s) ∧ w'.cell? ⟨gC, xp * 3 + 1, none⟩ = some (.slice tp.a1 tp.n1 tp.c1) ∧ w'.cell? ⟨gC, xp * 3 + 2, none⟩ = some (.slice tp.a2 tp.n2 tp.c2)) ∧ (w'.cell? ⟨gC, x * 3, none⟩ = some (.bool tx.s) ∧ w'.cell? ⟨gC, x * 3 + 1, none⟩ = some (.slice tx.a1 tx.n1 tx.c1) ∧ w'.cell? ⟨gC, x * 3 + 2, none⟩ = some (.slice tx.a2 tx.n2 tx.c2)) ∧ w'.cell? ⟨gt, 0, none⟩ = some (.bool tt.s) ∧ w'.cell? ⟨gt, 1, none⟩ = some (.slice tt.a1 tt.n1 tt.c1) ∧ w'.cell? ⟨gt, 2, none⟩ = some (.slice tt.a2 tt.n2 tt.c2)) (by kernel_rfl) ?_
      have bd0 : Below Wgt.heap.size Wgt Wgt.drew := (Below.refl _ _).drew
      have hC0 : (fun w' : World => w'.cell? ⟨gs, 1, none⟩ = some (.int .i64 (F : Int)) ∧ (w'.cell? ⟨gC, xp * 3, none⟩ = some (.bool tp.s) ∧ w'.cell? ⟨gC, xp * 3 + 1, none⟩ = some (.slice tp.a1 tp.n1 tp.c1) ∧ w'.cell? ⟨gC, xp * 3 + 2, none⟩ = some (.slice tp.a2 tp.n2 tp.c2)) ∧ (w'.cell? ⟨gC, x * 3, none⟩ = some (.bool tx.s) ∧ w'.cell? ⟨gC, x * 3 + 1, none⟩ = some (.slice tx.a1 tx.n1 tx.c1) ∧ w'.cell? ⟨gC, x * 3 + 2, none⟩ = some (.slice tx.a2 tx.n2 tx.c2)) ∧ w'.cell? ⟨gt, 0, none⟩ = some (.bool tt.s) ∧ w'.cell? ⟨gt, 1, none⟩ = some (.slice tt.a1 tt.n1 tt.c1) ∧ w'.cell? ⟨gt, 2, none⟩ = some (.slice tt.a2 tt.n2 tt.c2)) Wgt.drew := unhide HC13 _ bd0
      refine wpHold_take (i := 0) (v := ?_) rfl (by kernel_rfl) (by kernel_rfl) (by kernel_rfl) (fun _ _ _ h => h) (Or.inl ⟨by rfl, ?_⟩) hC0 ?_
      rotate_left
      · intro w hSw; clear hSw; go_simp; (try with_reducible rfl)
      (try simp only [List.getElem_toArray, List.getElem_cons_succ, List.getElem_cons_zero])
      (try simp only [Act.put, List.setIfInBounds_toArray, List.set_cons_zero, List.set_cons_succ])
      refine wpHold_take (i := 1) (v := ?_) rfl (by kernel_rfl) (by kernel_rfl) (by kernel_rfl) (fun _ _ _ h => h) (Or.inl ⟨by rfl, ?_⟩) hC0 ?_
      rotate_left
      · intro w hSw; clear hSw; go_simp; (try with_reducible rfl)
      (try simp only [List.getElem_toArray, List.getElem_cons_succ, List.getElem_cons_zero])
      (try simp only [Act.put, List.setIfInBounds_toArray, List.set_cons_zero, List.set_cons_succ])
      refine wpHold_take (i := 2) (v := ?_) rfl (by kernel_rfl) (by kernel_rfl) (by kernel_rfl) (fun _ _ _ h => h) (Or.inl ⟨by rfl, ?_⟩) hC0 ?_
      rotate_left
      · intro w hSw; clear hSw; go_simp; (try with_reducible rfl)
      (try simp only [List.getElem_toArray, List.getElem_cons_succ, List.getElem_cons_zero])
      (try simp only [Act.put, List.setIfInBounds_toArray, List.set_cons_zero, List.set_cons_succ])
      refine wpHold_take (i := 3) (v := ?_) rfl (by kernel_rfl) (by kernel_rfl) (by kernel_rfl) (fun _ _ _ h => h) (Or.inl ⟨by rfl, ?_⟩) hC0 ?_
      rotate_left
      · intro w hSw; clear hSw; go_simp; (try with_reducible rfl)
      (try simp only [List.getElem_toArray, List.getElem_cons_succ, List.getElem_cons_zero])
      (try simp only [Act.put, List.setIfInBounds_toArray, List.set_cons_zero, List.set_cons_succ])
      refine wpHold_take (i := 4) (v := ?_) rfl (by kernel_rfl) (by kernel_rfl) (by kernel_rfl) (fun _ _ _ h => h) (Or.inl ⟨by rfl, ?_⟩) hC0 ?_
      rotate_left
      · intro w hSw; (try dsimp only at hSw); obtain ⟨y0, ⟨z0, z1, z2⟩, ⟨z3, z4, z5⟩, z6, z7, z8⟩ := hSw; go_simp; (try with_reducible rfl)
      (try simp only [List.getElem_toArray, List.getElem_cons_succ, List.getElem_cons_zero])
      (try simp only [Act.put, List.setIfInBounds_toArray, List.set_cons_zero, List.set_cons_succ])
      refine wpHold_take (i := 6) (v := ?_) rfl (by kernel_rfl) (by kernel_rfl) (by kernel_rfl) (fun _ _ _ h => h) (Or.inl ⟨by rfl, ?_⟩) hC0 ?_
      rotate_left
      · intro w hSw; clear hSw; go_simp; (try with_reducible rfl)
      (try simp only [List.getElem_toArray, List.getElem_cons_succ, List.getElem_cons_zero])
      (try simp only [Act.put, List.setIfInBounds_toArray, List.set_cons_zero, List.set_cons_succ])
      refine wpHold_take (i := 7) (v := ?_) rfl (by kernel_rfl) (by kernel_rfl) (by kernel_rfl) (fun _ _ _ h => h) (Or.inl ⟨by rfl, ?_⟩) hC0 ?_
      rotate_left
      · intro w hSw; clear hSw; go_simp; (try with_reducible rfl)
      (try simp only [List.getElem_toArray, List.getElem_cons_succ, List.getElem_cons_zero])
      (try simp only [Act.put, List.setIfInBounds_toArray, List.set_cons_zero, List.set_cons_succ])
      refine wpHold_take (i := 8) (v := ?_) rfl (by kernel_rfl) (by kernel_rfl) (by kernel_rfl) (fun _ _ _ h => h) (Or.inl ⟨by rfl, ?_⟩) hC0 ?_
      rotate_left
      · intro w hSw; clear hSw; go_simp; (try with_reducible rfl)
      (try simp only [List.getElem_toArray, List.getElem_cons_succ, List.getElem_cons_zero])
      (try simp only [Act.put, List.setIfInBounds_toArray, List.set_cons_zero, List.set_cons_succ])
      refine wpHold_take (i := 9) (v := ?_) rfl (by kernel_rfl) (by kernel_rfl) (by kernel_rfl) (fun _ _ _ h => h) (Or.inl ⟨by rfl, ?_⟩) hC0 ?_
      rotate_left
      · intro w hSw; clear hSw; go_simp; (try with_reducible rfl)
      (try simp only [List.getElem_toArray, List.getElem_cons_succ, List.getElem_cons_zero])
      (try simp only [Act.put, List.setIfInBounds_toArray, List.set_cons_zero, List.set_cons_succ])
      refine wpHold_take (i := 10) (v := ?_) rfl (by kernel_rfl) (by kernel_rfl) (by kernel_rfl) (fun _ _ _ h => h) (Or.inl ⟨by rfl, ?_⟩) hC0 ?_
      rotate_left
      · intro w hSw; clear hSw; go_simp; (try with_reducible rfl)
      (try simp only [List.getElem_toArray, List.getElem_cons_succ, List.getElem_cons_zero])
      (try simp only [Act.put, List.setIfInBounds_toArray, List.set_cons_zero, List.set_cons_succ])
      refine wpHold_take (i := 11) (v := ?_) rfl (by kernel_rfl) (by kernel_rfl) (by kernel_rfl) (fun _ _ _ h => h) (Or.inl ⟨by rfl, ?_⟩) hC0 ?_
      rotate_left
      · intro w hSw; (try dsimp only at hSw); obtain ⟨y0, ⟨z0, z1, z2⟩, ⟨z3, z4, z5⟩, z6, z7, z8⟩ := hSw; go_simp; (try with_reducible rfl)
      (try simp only [List.getElem_toArray, List.getElem_cons_succ, List.getElem_cons_zero])
      (try simp only [Act.put, List.setIfInBounds_toArray, List.set_cons_zero, List.set_cons_succ])
      refine wpHold_take (i := 13) (v := ?_) rfl (by kernel_rfl) (by kernel_rfl) (by kernel_rfl) (fun _ _ _ h => h) (Or.inl ⟨by rfl, ?_⟩) hC0 ?_
      rotate_left
      · intro w hSw; clear hSw; go_simp; (try with_reducible rfl)
      (try simp only [List.getElem_toArray, List.getElem_cons_succ, List.getElem_cons_zero])
      (try simp only [Act.put, List.setIfInBounds_toArray, List.set_cons_zero, List.set_cons_succ])
      refine wpHold_take (i := 14) (v := ?_) rfl (by kernel_rfl) (by kernel_rfl) (by kernel_rfl) (fun _ _ _ h => h) (Or.inl ⟨by rfl, ?_⟩) hC0 ?_
      rotate_left
      · intro w hSw; clear hSw; go_simp; (try with_reducible rfl)
      (try simp only [List.getElem_toArray, List.getElem_cons_succ, List.getElem_cons_zero])
      (try simp only [Act.put, List.setIfInBounds_toArray, List.set_cons_zero, List.set_cons_succ])
      refine wpHold_take (i := 15) (v := ?_) rfl (by kernel_rfl) (by kernel_rfl) (by kernel_rfl) (fun _ _ _ h => h) (Or.inl ⟨by rfl, ?_⟩) hC0 ?_
      rotate_left
      · intro w hSw; clear hSw; go_simp; (try with_reducible rfl)
      (try simp only [List.getElem_toArray, List.getElem_cons_succ, List.getElem_cons_zero])
      (try simp only [Act.put, List.setIfInBounds_toArray, List.set_cons_zero, List.set_cons_succ])
      refine wpHold_take (i := 16) (v := ?_) rfl (by kernel_rfl) (by kernel_rfl) (by kernel_rfl) (fun _ _ _ h => h) (Or.inl ⟨by rfl, ?_⟩) hC0 ?_
      rotate_left
      · intro w hSw; (try dsimp only at hSw); obtain ⟨y0, ⟨z0, z1, z2⟩, ⟨z3, z4, z5⟩, z6, z7, z8⟩ := hSw; go_simp; (try with_reducible rfl)
      (try simp only [List.getElem_toArray, List.getElem_cons_succ, List.getElem_cons_zero])
      (try simp only [Act.put, List.setIfInBounds_toArray, List.set_cons_zero, List.set_cons_succ])
      refine wpHold_take (i := 18) (v := ?_) rfl (by kernel_rfl) (by kernel_rfl) (by kernel_rfl) (fun _ _ _ h => h) (Or.inl ⟨by rfl, ?_⟩) hC0 ?_
      rotate_left
      · intro w hSw; clear hSw; go_simp; (try with_reducible rfl)
      (try simp only [List.getElem_toArray, List.getElem_cons_succ, List.getElem_cons_zero])
      (try simp only [Act.put, List.setIfInBounds_toArray, List.set_cons_zero, List.set_cons_succ])
      refine wpHold_take (i := 20) (v := ?_) rfl (by kernel_rfl) (by kernel_rfl) (by kernel_rfl) (fun _ _ _ h => h) (Or.inl ⟨by rfl, ?_⟩) hC0 ?_
      rotate_left
      · intro w hSw; (try dsimp only at hSw); obtain ⟨y0, ⟨z0, z1, z2⟩, ⟨z3, z4, z5⟩, z6, z7, z8⟩ := hSw; go_simp; (try with_reducible rfl)
      (try simp only [List.getElem_toArray, List.getElem_cons_succ, List.getElem_cons_zero])
      (try simp only [Act.put, List.setIfInBounds_toArray, List.set_cons_zero, List.set_cons_succ])
      refine wpHold_one (k := 5) (by kernel_rfl) rfl (fun K hK => ?_)
      (try simp only [List.getElem_toArray, List.getElem_cons_succ, List.getElem_cons_zero])
      go_simp
      refine (unhide HWF _).mono ?_
      rintro e xw_1 ⟨xv_1, rfl, hv_1, hb_1⟩
      have cc_1 := below_step bd0 hb_1
      have hC_1 : (fun w' : World => w'.cell? ⟨gs, 1, none⟩ = some (.int .i64 (F : Int)) ∧ (w'.cell? ⟨gC, xp * 3, none⟩ = some (.bool tp.s) ∧ w'.cell? ⟨gC, xp * 3 + 1, none⟩ = some (.slice tp.a1 tp.n1 tp.c1) ∧ w'.cell? ⟨gC, xp * 3 + 2, none⟩ = some (.slice tp.a2 tp.n2 tp.c2)) ∧ (w'.cell? ⟨gC, x * 3, none⟩ = some (.bool tx.s) ∧ w'.cell? ⟨gC, x * 3 + 1, none⟩ = some (.slice tx.a1 tx.n1 tx.c1) ∧ w'.cell? ⟨gC, x * 3 + 2, none⟩ = some (.slice tx.a2 tx.n2 tx.c2)) ∧ w'.cell? ⟨gt, 0, none⟩ = some (.bool tt.s) ∧ w'.cell? ⟨gt, 1, none⟩ = some (.slice tt.a1 tt.n1 tt.c1) ∧ w'.cell? ⟨gt, 2, none⟩ = some (.slice tt.a2 tt.n2 tt.c2)) xw_1 := unhide HC13 _ cc_1
      refine hK.out _ _ hC_1 ?_
      clear hK K
      (try simp only [Act.put, List.setIfInBounds_toArray, List.set_cons_zero, List.set_cons_succ])
      refine wpHold_one (k := 12) (by kernel_rfl) rfl (fun K hK => ?_)
      (try simp only [List.getElem_toArray, List.getElem_cons_succ, List.getElem_cons_zero])
      go_simp
      refine (addR_any _ _ _ _ _ hv_1 (unhide HRP _ (below_step (unhide HYT) cc_1)) 600000000 (unhide HJF) (unhide HJP) (unhide HKK)).mono ?_
      rintro e xw_2 ⟨xv_2, rfl, hv_2, hb_2⟩
      have cc_2 := below_step cc_1 hb_2
      have hC_2 : (fun w' : World => w'.cell? ⟨gs, 1, none⟩ = some (.int .i64 (F : Int)) ∧ (w'.cell? ⟨gC, xp * 3, none⟩ = some (.bool tp.s) ∧ w'.cell? ⟨gC, xp * 3 + 1, none⟩ = some (.slice tp.a1 tp.n1 tp.c1) ∧ w'.cell? ⟨gC, xp * 3 + 2, none⟩ = some (.slice tp.a2 tp.n2 tp.c2)) ∧ (w'.cell? ⟨gC, x * 3, none⟩ = some (.bool tx.s) ∧ w'.cell? ⟨gC, x * 3 + 1, none⟩ = some (.slice tx.a1 tx.n1 tx.c1) ∧ w'.cell? ⟨gC, x * 3 + 2, none⟩ = some (.slice tx.a2 tx.n2 tx.c2)) ∧ w'.cell? ⟨gt, 0, none⟩ = some (.bool tt.s) ∧ w'.cell? ⟨gt, 1, none⟩ = some (.slice tt.a1 tt.n1 tt.c1) ∧ w'.cell? ⟨gt, 2, none⟩ = some (.slice tt.a2 tt.n2 tt.c2)) xw_2 := unhide HC13 _ cc_2
      refine hK.out _ _ hC_2 ?_
      clear hK K
      (try simp only [Act.put, List.setIfInBounds_toArray, List.set_cons_zero, List.set_cons_succ])
      refine wpHold_one (k := 17) (by kernel_rfl) rfl (fun K hK => ?_)
      (try simp only [List.getElem_toArray, List.getElem_cons_succ, List.getElem_cons_zero])
      go_simp
      refine (subR_any _ _ _ _ _ hv_2 (unhide HRX _ (below_step (unhide HYT) cc_2)) 600000000 (unhide HJ1) (unhide HJX) (unhide HKK)).mono ?_
      rintro e xw_3 ⟨xv_3, rfl, hv_3, hb_3⟩
      have cc_3 := below_step cc_2 hb_3
      have hC_3 : (fun w' : World => w'.cell? ⟨gs, 1, none⟩ = some (.int .i64 (F : Int)) ∧ (w'.cell? ⟨gC, xp * 3, none⟩ = some (.bool tp.s) ∧ w'.cell? ⟨gC, xp * 3 + 1, none⟩ = some (.slice tp.a1 tp.n1 tp.c1) ∧ w'.cell? ⟨gC, xp * 3 + 2, none⟩ = some (.slice tp.a2 tp.n2 tp.c2)) ∧ (w'.cell? ⟨gC, x * 3, none⟩ = some (.bool tx.s) ∧ w'.cell? ⟨gC, x * 3 + 1, none⟩ = some (.slice tx.a1 tx.n1 tx.c1) ∧ w'.cell? ⟨gC, x * 3 + 2, none⟩ = some (.slice tx.a2 tx.n2 tx.c2)) ∧ w'.cell? ⟨gt, 0, none⟩ = some (.bool tt.s) ∧ w'.cell? ⟨gt, 1, none⟩ = some (.slice tt.a1 tt.n1 tt.c1) ∧ w'.cell? ⟨gt, 2, none⟩ = some (.slice tt.a2 tt.n2 tt.c2)) xw_3 := unhide HC13 _ cc_3
      refine hK.out _ _ hC_3 ?_
      clear hK K
      (try simp only [Act.put, List.setIfInBounds_toArray, List.set_cons_zero, List.set_cons_succ])
      refine wpHold_one (k := 19) (by kernel_rfl) rfl (fun K hK => ?_)
      (try simp only [List.getElem_toArray, List.getElem_cons_succ, List.getElem_cons_zero])
      go_simp
      refine (unhide HWA _).mono ?_
      rintro e xw_4 ⟨xv_4, rfl, hv_4, hb_4⟩
      have cc_4 := below_step cc_3 hb_4
      have hC_4 : (fun w' : World => w'.cell? ⟨gs, 1, none⟩ = some (.int .i64 (F : Int)) ∧ (w'.cell? ⟨gC, xp * 3, none⟩ = some (.bool tp.s) ∧ w'.cell? ⟨gC, xp * 3 + 1, none⟩ = some (.slice tp.a1 tp.n1 tp.c1) ∧ w'.cell? ⟨gC, xp * 3 + 2, none⟩ = some (.slice tp.a2 tp.n2 tp.c2)) ∧ (w'.cell? ⟨gC, x * 3, none⟩ = some (.bool tx.s) ∧ w'.cell? ⟨gC, x * 3 + 1, none⟩ = some (.slice tx.a1 tx.n1 tx.c1) ∧ w'.cell? ⟨gC, x * 3 + 2, none⟩ = some (.slice tx.a2 tx.n2 tx.c2)) ∧ w'.cell? ⟨gt, 0, none⟩ = some (.bool tt.s) ∧ w'.cell? ⟨gt, 1, none⟩ = some (.slice tt.a1 tt.n1 tt.c1) ∧ w'.cell? ⟨gt, 2, none⟩ = some (.slice tt.a2 tt.n2 tt.c2)) xw_4 := unhide HC13 _ cc_4
      refine hK.out _ _ hC_4 ?_
      clear hK K
      (try simp only [Act.put, List.setIfInBounds_toArray, List.set_cons_zero, List.set_cons_succ])
      refine wpHold_one (k := 21) (by kernel_rfl) rfl (fun K hK => ?_)
      (try simp only [List.getElem_toArray, List.getElem_cons_succ, List.getElem_cons_zero])
      go_simp
      refine (mulR_any _ _ _ _ _ hv_4 ((unhide HXT).below cc_4) 600000000 (unhide HJA) (unhide HJQ) (unhide HKK)).mono ?_
      rintro e xw_5 ⟨xv_5, rfl, hv_5, hb_5⟩
      have cc_5 := below_step cc_4 hb_5
      have hC_5 : (fun w' : World => w'.cell? ⟨gs, 1, none⟩ = some (.int .i64 (F : Int)) ∧ (w'.cell? ⟨gC, xp * 3, none⟩ = some (.bool tp.s) ∧ w'.cell? ⟨gC, xp * 3 + 1, none⟩ = some (.slice tp.a1 tp.n1 tp.c1) ∧ w'.cell? ⟨gC, xp * 3 + 2, none⟩ = some (.slice tp.a2 tp.n2 tp.c2)) ∧ (w'.cell? ⟨gC, x * 3, none⟩ = some (.bool tx.s) ∧ w'.cell? ⟨gC, x * 3 + 1, none⟩ = some (.slice tx.a1 tx.n1 tx.c1) ∧ w'.cell? ⟨gC, x * 3 + 2, none⟩ = some (.slice tx.a2 tx.n2 tx.c2)) ∧ w'.cell? ⟨gt, 0, none⟩ = some (.bool tt.s) ∧ w'.cell? ⟨gt, 1, none⟩ = some (.slice tt.a1 tt.n1 tt.c1) ∧ w'.cell? ⟨gt, 2, none⟩ = some (.slice tt.a2 tt.n2 tt.c2)) xw_5 := unhide HC13 _ cc_5
      refine hK.out _ _ hC_5 ?_
      clear hK K
      (try simp only [Act.put, List.setIfInBounds_toArray, List.set_cons_zero, List.set_cons_succ])
      refine wpHold_one (k := 22) (by kernel_rfl) rfl (fun K hK => ?_)
      (try simp only [List.getElem_toArray, List.getElem_cons_succ, List.getElem_cons_zero])
      go_simp
      refine (subR_any _ _ _ _ _ ((hv_3.below hb_4).below hb_5) hv_5 600000000 (unhide HJ2) (unhide HJ3) (unhide HKK)).mono ?_
      rintro e xw_6 ⟨xv_6, rfl, hv_6, hb_6⟩
      have cc_6 := below_step cc_5 hb_6
      have hC_6 : (fun w' : World => w'.cell? ⟨gs, 1, none⟩ = some (.int .i64 (F : Int)) ∧ (w'.cell? ⟨gC, xp * 3, none⟩ = some (.bool tp.s) ∧ w'.cell? ⟨gC, xp * 3 + 1, none⟩ = some (.slice tp.a1 tp.n1 tp.c1) ∧ w'.cell? ⟨gC, xp * 3 + 2, none⟩ = some (.slice tp.a2 tp.n2 tp.c2)) ∧ (w'.cell? ⟨gC, x * 3, none⟩ = some (.bool tx.s) ∧ w'.cell? ⟨gC, x * 3 + 1, none⟩ = some (.slice tx.a1 tx.n1 tx.c1) ∧ w'.cell? ⟨gC, x * 3 + 2, none⟩ = some (.slice tx.a2 tx.n2 tx.c2)) ∧ w'.cell? ⟨gt, 0, none⟩ = some (.bool tt.s) ∧ w'.cell? ⟨gt, 1, none⟩ = some (.slice tt.a1 tt.n1 tt.c1) ∧ w'.cell? ⟨gt, 2, none⟩ = some (.slice tt.a2 tt.n2 tt.c2)) xw_6 := unhide HC13 _ cc_6
      refine hK.out _ _ hC_6 ?_
      clear hK K
      (try simp only [Act.put, List.setIfInBounds_toArray, List.set_cons_zero, List.set_cons_succ])
      refine wpHold_one (k := 23) (by kernel_rfl) rfl (fun K hK => ?_)
      (try simp only [List.getElem_toArray, List.getElem_cons_succ, List.getElem_cons_zero])
      go_simp
      refine (sign_any _ _ _ hv_6).mono ?_
      rintro e xw_7 ⟨rfl, hb_7⟩
      have cc_7 := below_step cc_6 hb_7
      have hC_7 : (fun w' : World => w'.cell? ⟨gs, 1, none⟩ = some (.int .i64 (F : Int)) ∧ (w'.cell? ⟨gC, xp * 3, none⟩ = some (.bool tp.s) ∧ w'.cell? ⟨gC, xp * 3 + 1, none⟩ = some (.slice tp.a1 tp.n1 tp.c1) ∧ w'.cell? ⟨gC, xp * 3 + 2, none⟩ = some (.slice tp.a2 tp.n2 tp.c2)) ∧ (w'.cell? ⟨gC, x * 3, none⟩ = some (.bool tx.s) ∧ w'.cell? ⟨gC, x * 3 + 1, none⟩ = some (.slice tx.a1 tx.n1 tx.c1) ∧ w'.cell? ⟨gC, x * 3 + 2, none⟩ = some (.slice tx.a2 tx.n2 tx.c2)) ∧ w'.cell? ⟨gt, 0, none⟩ = some (.bool tt.s) ∧ w'.cell? ⟨gt, 1, none⟩ = some (.slice tt.a1 tt.n1 tt.c1) ∧ w'.cell? ⟨gt, 2, none⟩ = some (.slice tt.a2 tt.n2 tt.c2)) xw_7 := unhide HC13 _ cc_7
      refine hK.out _ _ hC_7 ?_
      clear hK K
      (try simp only [Act.put, List.setIfInBounds_toArray, List.set_cons_zero, List.set_cons_succ])
      have sgn := unhide HSGN
      refine wpHold_take (i := 24) (v := ?_) rfl (by kernel_rfl) (by kernel_rfl) (by kernel_rfl) (fun _ _ _ h => h) (Or.inl ⟨by rfl, ?_⟩) hC_7 ?_
      rotate_left
      · intro w hSw; clear hSw; go_simp; (try with_reducible rfl)
      (try simp only [List.getElem_toArray, List.getElem_cons_succ, List.getElem_cons_zero])
      (try simp only [Act.put, List.setIfInBounds_toArray, List.set_cons_zero, List.set_cons_succ])
      refine wpHold_take (i := 25) (v := ?_) rfl (by kernel_rfl) (by kernel_rfl) (by kernel_rfl) (fun _ _ _ h => h) (Or.inl ⟨by rfl, ?_⟩) hC_7 ?_
      rotate_left
      · intro w hSw; clear hSw; go_simp; (try with_reducible rfl)
      (try simp only [List.getElem_toArray, List.getElem_cons_succ, List.getElem_cons_zero])
      (try simp only [Act.put, List.setIfInBounds_toArray, List.set_cons_zero, List.set_cons_succ])
      refine wpHold_one (k := 26) (by kernel_rfl) rfl (fun K hK => ?_)
      (try simp only [List.getElem_toArray, List.getElem_cons_succ, List.getElem_cons_zero])
      go_simp
      refine hK.out _ _ hC_7 ?_
      clear hK K
      (try simp only [Act.put, List.setIfInBounds_toArray, List.set_cons_zero, List.set_cons_succ])
      refine wpHold_done (by kernel_rfl) ?_ _
      have HFF := hide (unhide HBF _ cc_7)
      clear hv_1 hv_2 hv_3 hv_4 hv_5 hv_6
      go_wp2
      go_ret
      exact ⟨rfl, unhide HFF⟩
    | false =>
      refine wpHold_take (i := 14) (v := ?_) rfl (by kernel_rfl) (by kernel_rfl) (by kernel_rfl) (fun _ _ _ h => h) (Or.inl ⟨by rfl, ?_⟩) hCv ?_
      rotate_left
      · intro w hSw; clear hSw; go_simp; (try with_reducible rfl)
      (try simp only [List.getElem_toArray, List.getElem_cons_succ, List.getElem_cons_zero])
      (try simp only [Act.put, List.setIfInBounds_toArray, List.set_cons_zero, List.set_cons_succ])
      refine wpHold_take (i := 15) (v := ?_) rfl (by kernel_rfl) (by kernel_rfl) (by kernel_rfl) (fun _ _ _ h => h) (Or.inl ⟨by rfl, ?_⟩) hCv ?_
      rotate_left
      · intro w hSw; clear hSw; go_simp; (try with_reducible rfl)
      (try simp only [List.getElem_toArray, List.getElem_cons_succ, List.getElem_cons_zero])
      (try simp only [Act.put, List.setIfInBounds_toArray, List.set_cons_zero, List.set_cons_succ])
      refine wpHold_take (i := 16) (v := ?_) rfl (by kernel_rfl) (by kernel_rfl) (by kernel_rfl) (fun _ _ _ h => h) (Or.inl ⟨by rfl, ?_⟩) hCv ?_
      rotate_left
      · intro w hSw; clear hSw; go_simp; (try with_reducible rfl)
      (try simp only [List.getElem_toArray, List.getElem_cons_succ, List.getElem_cons_zero])
      (try simp only [Act.put, List.setIfInBounds_toArray, List.set_cons_zero, List.set_cons_succ])
      have hbA := alloc_below wv (.cells #[.bool false, .slice none 0 0, .slice none 0 0] 40)
      have B10 := BoxIs.new (w := wv) (t := zTri) (q := 0) (rat_zero _)
      have B10' : BoxIs (wv.alloc (.cells #[.bool false, .slice none 0 0, .slice none 0 0] 40)) wv.heap.size zTri 0 := B10
      have rA := r0.below hbA
      have blA := below_step J.bl hbA
      have hCA : (fun w' : World => (w'.cell? ⟨gC, x * 3, none⟩ = some (.bool tx.s) ∧ w'.cell? ⟨gC, x * 3 + 1, none⟩ = some (.slice tx.a1 tx.n1 tx.c1) ∧ w'.cell? ⟨gC, x * 3 + 2, none⟩ = some (.slice tx.a2 tx.n2 tx.c2)) ∧ w'.cell? ⟨gC, xm * 3, none⟩ = some (.bool tm.s) ∧ w'.cell? ⟨gC, xm * 3 + 1, none⟩ = some (.slice tm.a1 tm.n1 tm.c1) ∧ w'.cell? ⟨gC, xm * 3 + 2, none⟩ = some (.slice tm.a2 tm.n2 tm.c2)) _ := unhide HC12 _ (below_step bd0 blA)
      have e10 : Wx.heap.size ≤ wv.heap.size := J.bl.size
      refine wpHold_one (k := 17) (by kernel_rfl) rfl (fun K hK => ?_)
      (try simp only [List.getElem_toArray, List.getElem_cons_succ, List.getElem_cons_zero])
      go_simp
      refine hK.out _ _ hCA ?_
      clear hK K
      (try simp only [Act.put, List.setIfInBounds_toArray, List.set_cons_zero, List.set_cons_succ])
      obtain ⟨wA, hwA⟩ : ∃ W, wv.alloc (.cells #[.bool false, .slice none 0 0, .slice none 0 0] 40) = W := ⟨_, rfl⟩
      obtain ⟨gt, hbn⟩ : ∃ b, wv.heap.size = b := ⟨_, rfl⟩
      rw [hwA] at B10' rA blA hCA
      rw [hbn] at B10' e10
      simp only [hwA, hbn]
      clear B10 hbA hwA hbn
      replace B10 := B10'
      clear B10'
      have ⟨l0, l1, l2⟩ := B10.free
      have ⟨k0, k1, k2⟩ := B10.cells _ (Below.refl _ _)
      have NB := B10.set rA
      have e10' : w10.heap.size ≤ gt := Nat.le_trans bd0.size e10
      have YB := (((below_step bd0 blA).setCell (p := ⟨gt, 0, none⟩) e10' (.bool tt.s)).setCell (p := ⟨gt, 1, none⟩) e10' (.slice tt.a1 tt.n1 tt.c1)).setCell (p := ⟨gt, 2, none⟩) e10' (.slice tt.a2 tt.n2 tt.c2)
      have HG_gt := hide e10'
      have hCn : (fun w' : World => (w'.cell? ⟨gC, x * 3, none⟩ = some (.bool tx.s) ∧ w'.cell? ⟨gC, x * 3 + 1, none⟩ = some (.slice tx.a1 tx.n1 tx.c1) ∧ w'.cell? ⟨gC, x * 3 + 2, none⟩ = some (.slice tx.a2 tx.n2 tx.c2)) ∧ w'.cell? ⟨gC, xm * 3, none⟩ = some (.bool tm.s) ∧ w'.cell? ⟨gC, xm * 3 + 1, none⟩ = some (.slice tm.a1 tm.n1 tm.c1) ∧ w'.cell? ⟨gC, xm * 3 + 2, none⟩ = some (.slice tm.a2 tm.n2 tm.c2)) _ := unhide HC12 _ YB
      obtain ⟨Wgt, hWy⟩ : ∃ W, ((wA.setCell ⟨gt, 0, none⟩ (.bool tt.s)).setCell ⟨gt, 1, none⟩ (.slice tt.a1 tt.n1 tt.c1)).setCell ⟨gt, 2, none⟩ (.slice tt.a2 tt.n2 tt.c2) = W := ⟨_, rfl⟩
      rw [hWy] at NB YB hCn
      have HX_gt := hide NB
      have HY_gt := hide YB
      clear J B10 YB NB e10' hCv
      refine wpHold_one (k := 18) (by kernel_rfl) rfl (fun K hK => ?_)
      (try simp only [List.getElem_toArray, List.getElem_cons_succ, List.getElem_cons_zero])
      go_simp
      refine hK.out _ _ hCn ?_
      clear hK K
      (try simp only [Act.put, List.setIfInBounds_toArray, List.set_cons_zero, List.set_cons_succ])
      refine wpHold_one (k := 19) (by kernel_rfl) rfl (fun K hK => ?_)
      (try simp only [List.getElem_toArray, List.getElem_cons_succ, List.getElem_cons_zero])
      go_simp
      refine hK.out _ _ hCn ?_
      clear hK K
      (try simp only [Act.put, List.setIfInBounds_toArray, List.set_cons_zero, List.set_cons_succ])
      refine wpHold_done (by kernel_rfl) ?_ _
      clear hCn l0 l1 l2 k0 k1 k2 hWy e10 bd0 hWx r0 hv_ hCA rA blA
      have HYT := hide (unhide HY_gt)
      have HXT := hide (unhide HX_gt).2
      have HC13 : Hid (∀ W', Below Wgt.heap.size Wgt W' → (fun w' : World => w'.cell? ⟨gs, 1, none⟩ = some (.int .i64 (F : Int)) ∧ (w'.cell? ⟨gC, xp * 3, none⟩ = some (.bool tp.s) ∧ w'.cell? ⟨gC, xp * 3 + 1, none⟩ = some (.slice tp.a1 tp.n1 tp.c1) ∧ w'.cell? ⟨gC, xp * 3 + 2, none⟩ = some (.slice tp.a2 tp.n2 tp.c2)) ∧ (w'.cell? ⟨gC, x * 3, none⟩ = some (.bool tx.s) ∧ w'.cell? ⟨gC, x * 3 + 1, none⟩ = some (.slice tx.a1 tx.n1 tx.c1) ∧ w'.cell? ⟨gC, x * 3 + 2, none⟩ = some (.slice tx.a2 tx.n2 tx.c2)) ∧ w'.cell? ⟨gt, 0, none⟩ = some (.bool tt.s) ∧ w'.cell? ⟨gt, 1, none⟩ = some (.slice tt.a1 tt.n1 tt.c1) ∧ w'.cell? ⟨gt, 2, none⟩ = some (.slice tt.a2 tt.n2 tt.c2)) W') := fun W' hW' => by
        have k := unhide HCE _ (below_step (unhide HY_gt) hW')
        have q := (unhide HX_gt).cells _ hW'
        exact ⟨k.1, k.2.1, k.2.2, q⟩
      have HBF : Hid (∀ W', Below Wgt.heap.size Wgt W' → Below w.heap.size w W') := fun W' hW' => unhide HBW _ (below_step (unhide HY_gt) hW')
      clear HX_gt HY_gt HG_gt
      go_wp2_with fail
      refine wp_region_hold (fun w' : World => w'.cell? ⟨gs, 1, none⟩ = some (.int .i64 (F : Int)) ∧ (w'.cell? ⟨gC, xp * 3, none⟩ = some (.bool tp.s) ∧ w'.cell? ⟨gC, xp * 3 + 1, none⟩ = some (.slice tp.a1 tp.n1 tp.c1) ∧ w'.cell? ⟨gC, xp * 3 + 2, none⟩ = some (.slice tp.a2 tp.n2 tp.c2)) ∧ (w'.cell? ⟨gC, x * 3, none⟩ = some (.bool tx.s) ∧ w'.cell? ⟨gC, x * 3 + 1, none⟩ = some (.slice tx.a1 tx.n1 tx.c1) ∧ w'.cell? ⟨gC, x * 3 + 2, none⟩ = some (.slice tx.a2 tx.n2 tx.c2)) ∧ w'.cell? ⟨gt, 0, none⟩ = some (.bool tt.s) ∧ w'.cell? ⟨gt, 1, none⟩ = some (.slice tt.a1 tt.n1 tt.c1) ∧ w'.cell? ⟨gt, 2, none⟩ = some (.slice tt.a2 tt.n2 tt.c2)) (by kernel_rfl) ?_
      have bd0 : Below Wgt.heap.size Wgt Wgt.drew := (Below.refl _ _).drew
      have hC0 : (fun w' : World => w'.cell? ⟨gs, 1, none⟩ = some (.int .i64 (F : Int)) ∧ (w'.cell? ⟨gC, xp * 3, none⟩ = some (.bool tp.s) ∧ w'.cell? ⟨gC, xp * 3 + 1, none⟩ = some (.slice tp.a1 tp.n1 tp.c1) ∧ w'.cell? ⟨gC, xp * 3 + 2, none⟩ = some (.slice tp.a2 tp.n2 tp.c2)) ∧ (w'.cell? ⟨gC, x * 3, none⟩ = some (.bool tx.s) ∧ w'.cell? ⟨gC, x * 3 + 1, none⟩ = some (.slice tx.a1 tx.n1 tx.c1) ∧ w'.cell? ⟨gC, x * 3 + 2, none⟩ = some (.slice tx.a2 tx.n2 tx.c2)) ∧ w'.cell? ⟨gt, 0, none⟩ = some (.bool tt.s) ∧ w'.cell? ⟨gt, 1, none⟩ = some (.slice tt.a1 tt.n1 tt.c1) ∧ w'.cell? ⟨gt, 2, none⟩ = some (.slice tt.a2 tt.n2 tt.c2)) Wgt.drew := unhide HC13 _ bd0
      refine wpHold_take (i := 0) (v := ?_) rfl (by kernel_rfl) (by kernel_rfl) (by kernel_rfl) (fun _ _ _ h => h) (Or.inl ⟨by rfl, ?_⟩) hC0 ?_
      rotate_left
      · intro w hSw; clear hSw; go_simp; (try with_reducible rfl)
      (try simp only [List.getElem_toArray, List.getElem_cons_succ, List.getElem_cons_zero])
      (try simp only [Act.put, List.setIfInBounds_toArray, List.set_cons_zero, List.set_cons_succ])
      refine wpHold_take (i := 1) (v := ?_) rfl (by kernel_rfl) (by kernel_rfl) (by kernel_rfl) (fun _ _ _ h => h) (Or.inl ⟨by rfl, ?_⟩) hC0 ?_
      rotate_left
      · intro w hSw; clear hSw; go_simp; (try with_reducible rfl)
      (try simp only [List.getElem_toArray, List.getElem_cons_succ, List.getElem_cons_zero])
      (try simp only [Act.put, List.setIfInBounds_toArray, List.set_cons_zero, List.set_cons_succ])
      refine wpHold_take (i := 2) (v := ?_) rfl (by kernel_rfl) (by kernel_rfl) (by kernel_rfl) (fun _ _ _ h => h) (Or.inl ⟨by rfl, ?_⟩) hC0 ?_
      rotate_left
      · intro w hSw; clear hSw; go_simp; (try with_reducible rfl)
      (try simp only [List.getElem_toArray, List.getElem_cons_succ, List.getElem_cons_zero])
      (try simp only [Act.put, List.setIfInBounds_toArray, List.set_cons_zero, List.set_cons_succ])
      refine wpHold_take (i := 3) (v := ?_) rfl (by kernel_rfl) (by kernel_rfl) (by kernel_rfl) (fun _ _ _ h => h) (Or.inl ⟨by rfl, ?_⟩) hC0 ?_
      rotate_left
      · intro w hSw; clear hSw; go_simp; (try with_reducible rfl)
      (try simp only [List.getElem_toArray, List.getElem_cons_succ, List.getElem_cons_zero])
      (try simp only [Act.put, List.setIfInBounds_toArray, List.set_cons_zero, List.set_cons_succ])
      refine wpHold_take (i := 4) (v := ?_) rfl (by kernel_rfl) (by kernel_rfl) (by kernel_rfl) (fun _ _ _ h => h) (Or.inl ⟨by rfl, ?_⟩) hC0 ?_
      rotate_left
      · intro w hSw; (try dsimp only at hSw); obtain ⟨y0, ⟨z0, z1, z2⟩, ⟨z3, z4, z5⟩, z6, z7, z8⟩ := hSw; go_simp; (try with_reducible rfl)
      (try simp only [List.getElem_toArray, List.getElem_cons_succ, List.getElem_cons_zero])
      (try simp only [Act.put, List.setIfInBounds_toArray, List.set_cons_zero, List.set_cons_succ])
      refine wpHold_take (i := 6) (v := ?_) rfl (by kernel_rfl) (by kernel_rfl) (by kernel_rfl) (fun _ _ _ h => h) (Or.inl ⟨by rfl, ?_⟩) hC0 ?_
      rotate_left
      · intro w hSw; clear hSw; go_simp; (try with_reducible rfl)
      (try simp only [List.getElem_toArray, List.getElem_cons_succ, List.getElem_cons_zero])
      (try simp only [Act.put, List.setIfInBounds_toArray, List.set_cons_zero, List.set_cons_succ])
      refine wpHold_take (i := 7) (v := ?_) rfl (by kernel_rfl) (by kernel_rfl) (by kernel_rfl) (fun _ _ _ h => h) (Or.inl ⟨by rfl, ?_⟩) hC0 ?_
      rotate_left
      · intro w hSw; clear hSw; go_simp; (try with_reducible rfl)
      (try simp only [List.getElem_toArray, List.getElem_cons_succ, List.getElem_cons_zero])
      (try simp only [Act.put, List.setIfInBounds_toArray, List.set_cons_zero, List.set_cons_succ])
      refine wpHold_take (i := 8) (v := ?_) rfl (by kernel_rfl) (by kernel_rfl) (by kernel_rfl) (fun _ _ _ h => h) (Or.inl ⟨by rfl, ?_⟩) hC0 ?_
      rotate_left
      · intro w hSw; clear hSw; go_simp; (try with_reducible rfl)
      (try simp only [List.getElem_toArray, List.getElem_cons_succ, List.getElem_cons_zero])
      (try simp only [Act.put, List.setIfInBounds_toArray, List.set_cons_zero, List.set_cons_succ])
      refine wpHold_take (i := 9) (v := ?_) rfl (by kernel_rfl) (by kernel_rfl) (by kernel_rfl) (fun _ _ _ h => h) (Or.inl ⟨by rfl, ?_⟩) hC0 ?_
      rotate_left
      · intro w hSw; clear hSw; go_simp; (try with_reducible rfl)
      (try simp only [List.getElem_toArray, List.getElem_cons_succ, List.getElem_cons_zero])
      (try simp only [Act.put, List.setIfInBounds_toArray, List.set_cons_zero, List.set_cons_succ])
      refine wpHold_take (i := 10) (v := ?_) rfl (by kernel_rfl) (by kernel_rfl) (by kernel_rfl) (fun _ _ _ h => h) (Or.inl ⟨by rfl, ?_⟩) hC0 ?_
      rotate_left
      · intro w hSw; clear hSw; go_simp; (try with_reducible rfl)
      (try simp only [List.getElem_toArray, List.getElem_cons_succ, List.getElem_cons_zero])
      (try simp only [Act.put, List.setIfInBounds_toArray, List.set_cons_zero, List.set_cons_succ])
      refine wpHold_take (i := 11) (v := ?_) rfl (by kernel_rfl) (by kernel_rfl) (by kernel_rfl) (fun _ _ _ h => h) (Or.inl ⟨by rfl, ?_⟩) hC0 ?_
      rotate_left
      · intro w hSw; (try dsimp only at hSw); obtain ⟨y0, ⟨z0, z1, z2⟩, ⟨z3, z4, z5⟩, z6, z7, z8⟩ := hSw; go_simp; (try with_reducible rfl)
      (try simp only [List.getElem_toArray, List.getElem_cons_succ, List.getElem_cons_zero])
      (try simp only [Act.put, List.setIfInBounds_toArray, List.set_cons_zero, List.set_cons_succ])
      refine wpHold_take (i := 13) (v := ?_) rfl (by kernel_rfl) (by kernel_rfl) (by kernel_rfl) (fun _ _ _ h => h) (Or.inl ⟨by rfl, ?_⟩) hC0 ?_
      rotate_left
      · intro w hSw; clear hSw; go_simp; (try with_reducible rfl)
      (try simp only [List.getElem_toArray, List.getElem_cons_succ, List.getElem_cons_zero])
      (try simp only [Act.put, List.setIfInBounds_toArray, List.set_cons_zero, List.set_cons_succ])
      refine wpHold_take (i := 14) (v := ?_) rfl (by kernel_rfl) (by kernel_rfl) (by kernel_rfl) (fun _ _ _ h => h) (Or.inl ⟨by rfl, ?_⟩) hC0 ?_
      rotate_left
      · intro w hSw; clear hSw; go_simp; (try with_reducible rfl)
      (try simp only [List.getElem_toArray, List.getElem_cons_succ, List.getElem_cons_zero])
      (try simp only [Act.put, List.setIfInBounds_toArray, List.set_cons_zero, List.set_cons_succ])
      refine wpHold_take (i := 15) (v := ?_) rfl (by kernel_rfl) (by kernel_rfl) (by kernel_rfl) (fun _ _ _ h => h) (Or.inl ⟨by rfl, ?_⟩) hC0 ?_
      rotate_left
      · intro w hSw; clear hSw; go_simp; (try with_reducible rfl)
      (try simp only [List.getElem_toArray, List.getElem_cons_succ, List.getElem_cons_zero])
      (try simp only [Act.put, List.setIfInBounds_toArray, List.set_cons_zero, List.set_cons_succ])
      refine wpHold_take (i := 16) (v := ?_) rfl (by kernel_rfl) (by kernel_rfl) (by kernel_rfl) (fun _ _ _ h => h) (Or.inl ⟨by rfl, ?_⟩) hC0 ?_
      rotate_left
      · intro w hSw; (try dsimp only at hSw); obtain ⟨y0, ⟨z0, z1, z2⟩, ⟨z3, z4, z5⟩, z6, z7, z8⟩ := hSw; go_simp; (try with_reducible rfl)
      (try simp only [List.getElem_toArray, List.getElem_cons_succ, List.getElem_cons_zero])
      (try simp only [Act.put, List.setIfInBounds_toArray, List.set_cons_zero, List.set_cons_succ])
      refine wpHold_take (i := 18) (v := ?_) rfl (by kernel_rfl) (by kernel_rfl) (by kernel_rfl) (fun _ _ _ h => h) (Or.inl ⟨by rfl, ?_⟩) hC0 ?_
      rotate_left
      · intro w hSw; clear hSw; go_simp; (try with_reducible rfl)
      (try simp only [List.getElem_toArray, List.getElem_cons_succ, List.getElem_cons_zero])
      (try simp only [Act.put, List.setIfInBounds_toArray, List.set_cons_zero, List.set_cons_succ])
      refine wpHold_take (i := 20) (v := ?_) rfl (by kernel_rfl) (by kernel_rfl) (by kernel_rfl) (fun _ _ _ h => h) (Or.inl ⟨by rfl, ?_⟩) hC0 ?_
      rotate_left
      · intro w hSw; (try dsimp only at hSw); obtain ⟨y0, ⟨z0, z1, z2⟩, ⟨z3, z4, z5⟩, z6, z7, z8⟩ := hSw; go_simp; (try with_reducible rfl)
      (try simp only [List.getElem_toArray, List.getElem_cons_succ, List.getElem_cons_zero])
      (try simp only [Act.put, List.setIfInBounds_toArray, List.set_cons_zero, List.set_cons_succ])
      refine wpHold_one (k := 5) (by kernel_rfl) rfl (fun K hK => ?_)
      (try simp only [List.getElem_toArray, List.getElem_cons_succ, List.getElem_cons_zero])
      go_simp
      refine (unhide HWF _).mono ?_
      rintro e xw_1 ⟨xv_1, rfl, hv_1, hb_1⟩
      have cc_1 := below_step bd0 hb_1
      have hC_1 : (fun w' : World => w'.cell? ⟨gs, 1, none⟩ = some (.int .i64 (F : Int)) ∧ (w'.cell? ⟨gC, xp * 3, none⟩ = some (.bool tp.s) ∧ w'.cell? ⟨gC, xp * 3 + 1, none⟩ = some (.slice tp.a1 tp.n1 tp.c1) ∧ w'.cell? ⟨gC, xp * 3 + 2, none⟩ = some (.slice tp.a2 tp.n2 tp.c2)) ∧ (w'.cell? ⟨gC, x * 3, none⟩ = some (.bool tx.s) ∧ w'.cell? ⟨gC, x * 3 + 1, none⟩ = some (.slice tx.a1 tx.n1 tx.c1) ∧ w'.cell? ⟨gC, x * 3 + 2, none⟩ = some (.slice tx.a2 tx.n2 tx.c2)) ∧ w'.cell? ⟨gt, 0, none⟩ = some (.bool tt.s) ∧ w'.cell? ⟨gt, 1, none⟩ = some (.slice tt.a1 tt.n1 tt.c1) ∧ w'.cell? ⟨gt, 2, none⟩ = some (.slice tt.a2 tt.n2 tt.c2)) xw_1 := unhide HC13 _ cc_1
      refine hK.out _ _ hC_1 ?_
      clear hK K
      (try simp only [Act.put, List.setIfInBounds_toArray, List.set_cons_zero, List.set_cons_succ])
      refine wpHold_one (k := 12) (by kernel_rfl) rfl (fun K hK => ?_)
      (try simp only [List.getElem_toArray, List.getElem_cons_succ, List.getElem_cons_zero])
      go_simp
      refine (addR_any _ _ _ _ _ hv_1 (unhide HRP _ (below_step (unhide HYT) cc_1)) 600000000 (unhide HJF) (unhide HJP) (unhide HKK)).mono ?_
      rintro e xw_2 ⟨xv_2, rfl, hv_2, hb_2⟩
      have cc_2 := below_step cc_1 hb_2
      have hC_2 : (fun w' : World => w'.cell? ⟨gs, 1, none⟩ = some (.int .i64 (F : Int)) ∧ (w'.cell? ⟨gC, xp * 3, none⟩ = some (.bool tp.s) ∧ w'.cell? ⟨gC, xp * 3 + 1, none⟩ = some (.slice tp.a1 tp.n1 tp.c1) ∧ w'.cell? ⟨gC, xp * 3 + 2, none⟩ = some (.slice tp.a2 tp.n2 tp.c2)) ∧ (w'.cell? ⟨gC, x * 3, none⟩ = some (.bool tx.s) ∧ w'.cell? ⟨gC, x * 3 + 1, none⟩ = some (.slice tx.a1 tx.n1 tx.c1) ∧ w'.cell? ⟨gC, x * 3 + 2, none⟩ = some (.slice tx.a2 tx.n2 tx.c2)) ∧ w'.cell? ⟨gt, 0, none⟩ = some (.bool tt.s) ∧ w'.cell? ⟨gt, 1, none⟩ = some (.slice tt.a1 tt.n1 tt.c1) ∧ w'.cell? ⟨gt, 2, none⟩ = some (.slice tt.a2 tt.n2 tt.c2)) xw_2 := unhide HC13 _ cc_2
      refine hK.out _ _ hC_2 ?_
      clear hK K
      (try simp only [Act.put, List.setIfInBounds_toArray, List.set_cons_zero, List.set_cons_succ])
      refine wpHold_one (k := 17) (by kernel_rfl) rfl (fun K hK => ?_)
      (try simp only [List.getElem_toArray, List.getElem_cons_succ, List.getElem_cons_zero])
      go_simp
      refine (subR_any _ _ _ _ _ hv_2 (unhide HRX _ (below_step (unhide HYT) cc_2)) 600000000 (unhide HJ1) (unhide HJX) (unhide HKK)).mono ?_
      rintro e xw_3 ⟨xv_3, rfl, hv_3, hb_3⟩
      have cc_3 := below_step cc_2 hb_3
      have hC_3 : (fun w' : World => w'.cell? ⟨gs, 1, none⟩ = some (.int .i64 (F : Int)) ∧ (w'.cell? ⟨gC, xp * 3, none⟩ = some (.bool tp.s) ∧ w'.cell? ⟨gC, xp * 3 + 1, none⟩ = some (.slice tp.a1 tp.n1 tp.c1) ∧ w'.cell? ⟨gC, xp * 3 + 2, none⟩ = some (.slice tp.a2 tp.n2 tp.c2)) ∧ (w'.cell? ⟨gC, x * 3, none⟩ = some (.bool tx.s) ∧ w'.cell? ⟨gC, x * 3 + 1, none⟩ = some (.slice tx.a1 tx.n1 tx.c1) ∧ w'.cell? ⟨gC, x * 3 + 2, none⟩ = some (.slice tx.a2 tx.n2 tx.c2)) ∧ w'.cell? ⟨gt, 0, none⟩ = some (.bool tt.s) ∧ w'.cell? ⟨gt, 1, none⟩ = some (.slice tt.a1 tt.n1 tt.c1) ∧ w'.cell? ⟨gt, 2, none⟩ = some (.slice tt.a2 tt.n2 tt.c2)) xw_3 := unhide HC13 _ cc_3
      refine hK.out _ _ hC_3 ?_
      clear hK K
      (try simp only [Act.put, List.setIfInBounds_toArray, List.set_cons_zero, List.set_cons_succ])
      refine wpHold_one (k := 19) (by kernel_rfl) rfl (fun K hK => ?_)
      (try simp only [List.getElem_toArray, List.getElem_cons_succ, List.getElem_cons_zero])
      go_simp
      refine (unhide HWA _).mono ?_
      rintro e xw_4 ⟨xv_4, rfl, hv_4, hb_4⟩
      have cc_4 := below_step cc_3 hb_4
      have hC_4 : (fun w' : World => w'.cell? ⟨gs, 1, none⟩ = some (.int .i64 (F : Int)) ∧ (w'.cell? ⟨gC, xp * 3, none⟩ = some (.bool tp.s) ∧ w'.cell? ⟨gC, xp * 3 + 1, none⟩ = some (.slice tp.a1 tp.n1 tp.c1) ∧ w'.cell? ⟨gC, xp * 3 + 2, none⟩ = some (.slice tp.a2 tp.n2 tp.c2)) ∧ (w'.cell? ⟨gC, x * 3, none⟩ = some (.bool tx.s) ∧ w'.cell? ⟨gC, x * 3 + 1, none⟩ = some (.slice tx.a1 tx.n1 tx.c1) ∧ w'.cell? ⟨gC, x * 3 + 2, none⟩ = some (.slice tx.a2 tx.n2 tx.c2)) ∧ w'.cell? ⟨gt, 0, none⟩ = some (.bool tt.s) ∧ w'.cell? ⟨gt, 1, none⟩ = some (.slice tt.a1 tt.n1 tt.c1) ∧ w'.cell? ⟨gt, 2, none⟩ = some (.slice tt.a2 tt.n2 tt.c2)) xw_4 := unhide HC13 _ cc_4
      refine hK.out _ _ hC_4 ?_
      clear hK K
      (try simp only [Act.put, List.setIfInBounds_toArray, List.set_cons_zero, List.set_cons_succ])
      refine wpHold_one (k := 21) (by kernel_rfl) rfl (fun K hK => ?_)
      (try simp only [List.getElem_toArray, List.getElem_cons_succ, List.getElem_cons_zero])
      go_simp
      refine (mulR_any _ _ _ _ _ hv_4 ((unhide HXT).below cc_4) 600000000 (unhide HJA) (unhide HJQ) (unhide HKK)).mono ?_
      rintro e xw_5 ⟨xv_5, rfl, hv_5, hb_5⟩
      have cc_5 := below_step cc_4 hb_5
      have hC_5 : (fun w' : World => w'.cell? ⟨gs, 1, none⟩ = some (.int .i64 (F : Int)) ∧ (w'.cell? ⟨gC, xp * 3, none⟩ = some (.bool tp.s) ∧ w'.cell? ⟨gC, xp * 3 + 1, none⟩ = some (.slice tp.a1 tp.n1 tp.c1) ∧ w'.cell? ⟨gC, xp * 3 + 2, none⟩ = some (.slice tp.a2 tp.n2 tp.c2)) ∧ (w'.cell? ⟨gC, x * 3, none⟩ = some (.bool tx.s) ∧ w'.cell? ⟨gC, x * 3 + 1, none⟩ = some (.slice tx.a1 tx.n1 tx.c1) ∧ w'.cell? ⟨gC, x * 3 + 2, none⟩ = some (.slice tx.a2 tx.n2 tx.c2)) ∧ w'.cell? ⟨gt, 0, none⟩ = some (.bool tt.s) ∧ w'.cell? ⟨gt, 1, none⟩ = some (.slice tt.a1 tt.n1 tt.c1) ∧ w'.cell? ⟨gt, 2, none⟩ = some (.slice tt.a2 tt.n2 tt.c2)) xw_5 := unhide HC13 _ cc_5
      refine hK.out _ _ hC_5 ?_
      clear hK K
      (try simp only [Act.put, List.setIfInBounds_toArray, List.set_cons_zero, List.set_cons_succ])
      refine wpHold_one (k := 22) (by kernel_rfl) rfl (fun K hK => ?_)
      (try simp only [List.getElem_toArray, List.getElem_cons_succ, List.getElem_cons_zero])
      go_simp
      refine (subR_any _ _ _ _ _ ((hv_3.below hb_4).below hb_5) hv_5 600000000 (unhide HJ2) (unhide HJ3) (unhide HKK)).mono ?_
      rintro e xw_6 ⟨xv_6, rfl, hv_6, hb_6⟩
      have cc_6 := below_step cc_5 hb_6
      have hC_6 : (fun w' : World => w'.cell? ⟨gs, 1, none⟩ = some (.int .i64 (F : Int)) ∧ (w'.cell? ⟨gC, xp * 3, none⟩ = some (.bool tp.s) ∧ w'.cell? ⟨gC, xp * 3 + 1, none⟩ = some (.slice tp.a1 tp.n1 tp.c1) ∧ w'.cell? ⟨gC, xp * 3 + 2, none⟩ = some (.slice tp.a2 tp.n2 tp.c2)) ∧ (w'.cell? ⟨gC, x * 3, none⟩ = some (.bool tx.s) ∧ w'.cell? ⟨gC, x * 3 + 1, none⟩ = some (.slice tx.a1 tx.n1 tx.c1) ∧ w'.cell? ⟨gC, x * 3 + 2, none⟩ = some (.slice tx.a2 tx.n2 tx.c2)) ∧ w'.cell? ⟨gt, 0, none⟩ = some (.bool tt.s) ∧ w'.cell? ⟨gt, 1, none⟩ = some (.slice tt.a1 tt.n1 tt.c1) ∧ w'.cell? ⟨gt, 2, none⟩ = some (.slice tt.a2 tt.n2 tt.c2)) xw_6 := unhide HC13 _ cc_6
      refine hK.out _ _ hC_6 ?_
      clear hK K
      (try simp only [Act.put, List.setIfInBounds_toArray, List.set_cons_zero, List.set_cons_succ])
      refine wpHold_one (k := 23) (by kernel_rfl) rfl (fun K hK => ?_)
      (try simp only [List.getElem_toArray, List.getElem_cons_succ, List.getElem_cons_zero])
      go_simp
      refine (sign_any _ _ _ hv_6).mono ?_
      rintro e xw_7 ⟨rfl, hb_7⟩
      have cc_7 := below_step cc_6 hb_7
      have hC_7 : (fun w' : World => w'.cell? ⟨gs, 1, none⟩ = some (.int .i64 (F : Int)) ∧ (w'.cell? ⟨gC, xp * 3, none⟩ = some (.bool tp.s) ∧ w'.cell? ⟨gC, xp * 3 + 1, none⟩ = some (.slice tp.a1 tp.n1 tp.c1) ∧ w'.cell? ⟨gC, xp * 3 + 2, none⟩ = some (.slice tp.a2 tp.n2 tp.c2)) ∧ (w'.cell? ⟨gC, x * 3, none⟩ = some (.bool tx.s) ∧ w'.cell? ⟨gC, x * 3 + 1, none⟩ = some (.slice tx.a1 tx.n1 tx.c1) ∧ w'.cell? ⟨gC, x * 3 + 2, none⟩ = some (.slice tx.a2 tx.n2 tx.c2)) ∧ w'.cell? ⟨gt, 0, none⟩ = some (.bool tt.s) ∧ w'.cell? ⟨gt, 1, none⟩ = some (.slice tt.a1 tt.n1 tt.c1) ∧ w'.cell? ⟨gt, 2, none⟩ = some (.slice tt.a2 tt.n2 tt.c2)) xw_7 := unhide HC13 _ cc_7
      refine hK.out _ _ hC_7 ?_
      clear hK K
      (try simp only [Act.put, List.setIfInBounds_toArray, List.set_cons_zero, List.set_cons_succ])
      have sgn := unhide HSGN
      refine wpHold_take (i := 24) (v := ?_) rfl (by kernel_rfl) (by kernel_rfl) (by kernel_rfl) (fun _ _ _ h => h) (Or.inl ⟨by rfl, ?_⟩) hC_7 ?_
      rotate_left
      · intro w hSw; clear hSw; go_simp; (try with_reducible rfl)
      (try simp only [List.getElem_toArray, List.getElem_cons_succ, List.getElem_cons_zero])
      (try simp only [Act.put, List.setIfInBounds_toArray, List.set_cons_zero, List.set_cons_succ])
      refine wpHold_take (i := 25) (v := ?_) rfl (by kernel_rfl) (by kernel_rfl) (by kernel_rfl) (fun _ _ _ h => h) (Or.inl ⟨by rfl, ?_⟩) hC_7 ?_
      rotate_left
      · intro w hSw; clear hSw; go_simp; (try with_reducible rfl)
      (try simp only [List.getElem_toArray, List.getElem_cons_succ, List.getElem_cons_zero])
      (try simp only [Act.put, List.setIfInBounds_toArray, List.set_cons_zero, List.set_cons_succ])
      refine wpHold_one (k := 26) (by kernel_rfl) rfl (fun K hK => ?_)
      (try simp only [List.getElem_toArray, List.getElem_cons_succ, List.getElem_cons_zero])
      go_simp
      refine hK.out _ _ hC_7 ?_
      clear hK K
      (try simp only [Act.put, List.setIfInBounds_toArray, List.set_cons_zero, List.set_cons_succ])
      refine wpHold_done (by kernel_rfl) ?_ _
      have HFF := hide (unhide HBF _ cc_7)
      clear hv_1 hv_2 hv_3 hv_4 hv_5 hv_6
      go_wp2
      go_ret
      exact ⟨rfl, unhide HFF⟩
end Go.Proofs.YtohkmkoklhnnlaaGreatDoor
