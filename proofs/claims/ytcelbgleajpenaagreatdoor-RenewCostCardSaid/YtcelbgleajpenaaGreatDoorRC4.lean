/- RenewCost: the walk. -/
import Derived.Test.YtcelbgleajpenaaGreatDoorRC3
import Derived.Test.YtcelbgleajpenaaGreatDoorRC2
import Derived.Test.YtcelbgleajpenaaGreatDoorRL2
import Derived.Test.YtcelbgleajpenaaGreatDoorBI
import Derived.Test.YtcelbgleajpenaaGreatDoorBH
namespace Go.Proofs.YtcelbgleajpenaaGreatDoor
open Go.RowKit Go.Sort Go.Shelf

set_option maxHeartbeats 2000000 in
theorem whole_good' (x : Int) (w : World) :
    Calls Tryz.prog 37 #[.int .i64 x, .nilIface, .int .i64 x, .int .i64 0] w fun e w' => e = .returned (.bool true) ∧ Below w.heap.size w w' := by
  have e0 : (x == x) = true := by simp
  go_enter Tryz.func37, Tryz.ntmps37
  go_wp2
  go_ret
  exact ⟨rfl, Below.refl _ _⟩
set_option maxHeartbeats 2000000 in
theorem whole_bad' (y k : Int) (hk : k ≠ 0) (w : World) (hg : ErrTy w) :
    Calls Tryz.prog 37 #[.int .i64 0, .iface 27 (.int .i64 k), .int .i64 y, .int .i64 k] w fun e w' => e = .returned (.bool true) ∧ Below w.heap.size w w' := by
  have HT := hide (tell_errno k w hg)
  clear hg
  go_enter Tryz.func37, Tryz.ntmps37
  go_wp2_with fail
  refine (unhide HT).mono ?_
  rintro e w1 ⟨rfl, hb⟩
  go_wp2
  go_ret
  exact ⟨rfl, hb⟩
theorem sign_ltc {q : Rat} : q.num.sign < 0 ↔ q.num < 0 := by
  constructor
  · intro h
    rcases Int.lt_or_le q.num 0 with a | a
    · exact a
    · have := Int.sign_nonneg_iff.2 a
      omega
  · intro h
    rw [Int.sign_eq_neg_one_of_neg h]; decide
theorem lgB_false {n : Nat} (h : lgB n 20 = false) : ¬ (20 < n ∧ n ≤ 101) ∧ n ≤ 130 := by
  have := of_decide_eq_false h
  omega
/-- 4 calls one behind the other, and a box. -/
structure Nj4 (P1 P2 P3 P4 : World → Value → Prop) (w0 : World) (c : Nat) (l : Bool) (w : World) (s1 s2 s3 s4 s5 : Value) : Prop where
  bl : Below w0.heap.size w0 w
  r1 : 1 ≤ c → P1 w s1
  r2 : 2 ≤ c → P2 w s2
  r3 : 3 ≤ c → P3 w s3
  r4 : 4 ≤ c → P4 w s4
  al : l = true → ∃ b, s5 = .pointer (some ⟨b, 0, none⟩) ∧ BoxIs w b zTri 0 ∧ w0.heap.size ≤ b
set_option maxHeartbeats 64000000 in
set_option maxRecDepth 100000 in
set_option linter.unusedSimpArgs false in
theorem renewCost_any (v : Value) (ps : List (Int × Int)) (x y z u age : Int) (w : World) (htab : Tab w) (hg : ErrTy w) (hp : PairsAre w v ps) (hx : I64 x) (hy : I64 y) (hz : I64 z) (hu : I64 u) :
    Calls Tryz.prog 8 #[v, .agg #[.int .i64 x, .int .i64 y], .agg #[.int .i64 z, .int .i64 u], .int .i64 age] w fun e w' => e = .returned (.bool true) ∧ Below w.heap.size w w' := by
  have KKe : KK = 1099511627776 := rfl
  have HRS : Hid (∀ t, t < (pqs ps).length → RS (pqs ps)[t]! 1) := fun t ht => pqs_RS hp t ht
  have hpl := pqs_length ps
  have b1 := alloc_below w (.cells #[.int .i64 x, .int .i64 y] 51)
  have X0 := heap_alloc_new w (.cells #[.int .i64 x, .int .i64 y] 51)
  obtain ⟨W1, hW1⟩ : ∃ W, w.alloc (.cells #[.int .i64 x, .int .i64 y] 51) = W := ⟨_, rfl⟩
  obtain ⟨p5, s0⟩ : ∃ g, w.heap.size = g := ⟨_, rfl⟩
  rw [hW1] at b1 X0
  rw [s0] at X0
  have b2 := alloc_below W1 (.cells #[.int .i64 z, .int .i64 u] 51)
  have X1 := heap_alloc_new W1 (.cells #[.int .i64 z, .int .i64 u] 51)
  obtain ⟨W2, hW2⟩ : ∃ W, W1.alloc (.cells #[.int .i64 z, .int .i64 u] 51) = W := ⟨_, rfl⟩
  obtain ⟨p6, s1⟩ : ∃ g, W1.heap.size = g := ⟨_, rfl⟩
  rw [hW2] at b2 X1
  rw [s1] at X1
  have bb : Below w.heap.size w W2 := below_step b1 b2
  have Y0 := heap_kept X0 b2
  have HCC : Hid (∀ W, Below W2.heap.size W2 W → (fun w' : World => (w'.cell? ⟨p5, 0, none⟩ = some (.int .i64 x) ∧ w'.cell? ⟨p5, 1, none⟩ = some (.int .i64 y)) ∧ w'.cell? ⟨p6, 0, none⟩ = some (.int .i64 z) ∧ w'.cell? ⟨p6, 1, none⟩ = some (.int .i64 u)) W) := fun W hW => by
    have e1 := heap_kept Y0 hW
    have e2 := heap_kept X1 hW
    exact ⟨⟨by simp [World.cell?, e1], by simp [World.cell?, e1]⟩, by simp [World.cell?, e2], by simp [World.cell?, e2]⟩
  have HBB := hide bb
  have HTB : Hid (∀ W, Below W2.heap.size W2 W → Tab W) := fun W hW => tab_below htab (below_step (unhide HBB) hW)
  have HGT : Hid (∀ W, Below W2.heap.size W2 W → ErrTy W) := fun W hW => hg.below (below_step (unhide HBB) hW)
  have HLI0 : Hid (ps.length ≤ 1000 → ∀ W, Below W2.heap.size W2 W → Calls Tryz.prog 11 #[v] W fun e w' => ∃ v, e = .returned v ∧ RList w' v (pqs ps) ∧ Below W.heap.size W w') := fun hl W hW => refList_any v ps W (hp.below (below_step (unhide HBB) hW)) (by omega)
  have HLW0 : Hid (ps.length ≤ 1000 → ∀ W, Below W2.heap.size W2 W → Calls Tryz.prog 31 #[v] W fun e w' => ∃ v, e = .returned v ∧ LawIs w' v (pqs ps) ∧ Below W.heap.size W w') := fun hl W hW => law_any v ps W (hp.below (below_step (unhide HBB) hW)) (by omega)
  have HOA : Hid (∀ W, Calls Tryz.prog 20 #[.agg #[.int .i64 x, .int .i64 y]] W (NewsZ W (pq (x, y)))) := fun W => refOf_any x y hx hy W
  have HOB : Hid (∀ W, Calls Tryz.prog 20 #[.agg #[.int .i64 z, .int .i64 u]] W (NewsZ W (pq (z, u)))) := fun W => refOf_any z u hz hu W
  have HFA : Hid (∀ W, Calls Tryz.prog 25 #[.agg #[.int .i64 x, .int .i64 y]] W fun e w' => ∃ v, e = .returned v ∧ RatIs w' v (pq (x, y)) ∧ Below W.heap.size W w') := fun W => f_any x y hx.1 hx.2 hy.1 hy.2 W
  have HFB : Hid (∀ W, Calls Tryz.prog 25 #[.agg #[.int .i64 z, .int .i64 u]] W fun e w' => ∃ v, e = .returned v ∧ RatIs w' v (pq (z, u)) ∧ Below W.heap.size W w') := fun W => f_any z u hz.1 hz.2 hu.1 hu.2 W
  have HRA : Hid (RS (pq (x, y)) 1) := pq_RS hx hy
  have HRB : Hid (RS (pq (z, u)) 1) := pq_RS hz hu
  obtain ⟨qs, hqs⟩ : ∃ qs, pqs ps = qs := ⟨_, rfl⟩
  obtain ⟨qf, hqf⟩ : ∃ q, pq (x, y) = q := ⟨_, rfl⟩
  obtain ⟨qp, hqp⟩ : ∃ q, pq (z, u) = q := ⟨_, rfl⟩
  rw [hqs] at HRS HLI0 HLW0 hpl
  rw [hqf] at HOA HFA HRA
  rw [hqp] at HOB HFB HRB
  obtain ⟨a, c, rfl, h1, h2, -⟩ := id hp
  obtain ⟨n, hn⟩ : ∃ n, ps.length = n := ⟨_, rfl⟩
  rw [hn] at HLI0 HLW0 hpl h1 ⊢
  have HPL := hide hpl
  have HLG := hide (llong_any a n c 20 W2)
  have ⟨z0, z1⟩ := unhide HCC W2 (Below.refl _ _)
  clear b1 b2 bb X0 X1 Y0 htab hg hx hy hz hu hp hqs hqf hqp hn z0 z1
  obtain ⟨B, hL⟩ : ∃ B, lgB n 20 = B := ⟨_, rfl⟩
  cases B with
  | true =>
    rw [hL] at HLG
    go_enter Tryz.func8, Tryz.ntmps8
    go_wp2_with fail
    clear hW1 hW2
    refine (unhide HLG).mono ?_
    rintro e w0 ⟨rfl, hw⟩
    have hw' := hw.symm
    subst hw'
    clear hw
    go_wp2
    go_ret
    exact ⟨rfl, by have h := unhide HBB; first | exact h | (rw [← s0]; exact h) | (rw [s0] at h; exact h)⟩
  | false =>
    have hlg := lgB_false hL
    rw [hL] at HLG
    have HLI := hide (unhide HLI0 (by omega))
    have HLW := hide (unhide HLW0 (by omega))
    obtain ⟨r, hr⟩ : ∃ r, rnc qs = r := ⟨_, rfl⟩
    have HKI : Hid (r ≠ 0 ∨ (r = 0 ∧ qf.num < 0) ∨ (r = 0 ∧ ¬ qf.num < 0 ∧ qp.num < 0) ∨ (r = 0 ∧ ¬ qf.num < 0 ∧ ¬ qp.num < 0 ∧ age < 1) ∨ (r = 0 ∧ ¬ qf.num < 0 ∧ ¬ qp.num < 0 ∧ ¬ age < 1 ∧ 100 < age) ∨ (r = 0 ∧ ¬ qf.num < 0 ∧ ¬ qp.num < 0 ∧ ¬ age < 1 ∧ ¬ 100 < age)) := show _ from by
      by_cases k1 : r = 0
      · by_cases k2 : qf.num < 0
        · exact Or.inr (Or.inl ⟨k1, k2⟩)
        · by_cases k3 : qp.num < 0
          · exact Or.inr (Or.inr (Or.inl ⟨k1, k2, k3⟩))
          · by_cases k4 : age < 1
            · exact Or.inr (Or.inr (Or.inr (Or.inl ⟨k1, k2, k3, k4⟩)))
            · by_cases k5 : 100 < age
              · exact Or.inr (Or.inr (Or.inr (Or.inr (Or.inl ⟨k1, k2, k3, k4, k5⟩))))
              · exact Or.inr (Or.inr (Or.inr (Or.inr (Or.inr ⟨k1, k2, k3, k4, k5⟩))))
      · exact Or.inl k1
    clear HLI0 HLW0 hL
    go_enter Tryz.func8, Tryz.ntmps8
    go_wp2_with fail
    clear hW1 hW2 s0 s1
    refine (unhide HLG).mono ?_
    rintro e w0 ⟨rfl, hw⟩
    have hw' := hw.symm
    subst hw'
    clear hw HLG
    go_wp2_with fail
    refine wp_region_hold (fun w' : World => (w'.cell? ⟨p5, 0, none⟩ = some (.int .i64 x) ∧ w'.cell? ⟨p5, 1, none⟩ = some (.int .i64 y)) ∧ w'.cell? ⟨p6, 0, none⟩ = some (.int .i64 z) ∧ w'.cell? ⟨p6, 1, none⟩ = some (.int .i64 u)) (by kernel_rfl) ?_
    have bd0 : Below W2.heap.size W2 W2.drew := (Below.refl _ _).drew
    have hC0 : (fun w' : World => (w'.cell? ⟨p5, 0, none⟩ = some (.int .i64 x) ∧ w'.cell? ⟨p5, 1, none⟩ = some (.int .i64 y)) ∧ w'.cell? ⟨p6, 0, none⟩ = some (.int .i64 z) ∧ w'.cell? ⟨p6, 1, none⟩ = some (.int .i64 u)) W2.drew := unhide HCC _ bd0
    refine wpHold_take (i := 0) (v := ?_) rfl (by kernel_rfl) (by kernel_rfl) (by kernel_rfl) (fun _ _ _ h => h) (Or.inl ⟨by rfl, ?_⟩) hC0 ?_
    rotate_left
    · intro w hSw; clear hSw; go_simp; (try with_reducible rfl)
    (try simp only [List.getElem_toArray, List.getElem_cons_succ, List.getElem_cons_zero])
    (try simp only [Act.put, List.setIfInBounds_toArray, List.set_cons_zero, List.set_cons_succ])
    refine wpHold_take (i := 2) (v := ?_) rfl (by kernel_rfl) (by kernel_rfl) (by kernel_rfl) (fun _ _ _ h => h) (Or.inl ⟨by rfl, ?_⟩) hC0 ?_
    rotate_left
    · intro w hSw; (try dsimp only at hSw); obtain ⟨⟨z0, z1⟩, z2, z3⟩ := hSw; go_simp; (try with_reducible rfl)
    (try simp only [List.getElem_toArray, List.getElem_cons_succ, List.getElem_cons_zero])
    (try simp only [Act.put, List.setIfInBounds_toArray, List.set_cons_zero, List.set_cons_succ])
    refine wpHold_take (i := 4) (v := ?_) rfl (by kernel_rfl) (by kernel_rfl) (by kernel_rfl) (fun _ _ _ h => h) (Or.inl ⟨by rfl, ?_⟩) hC0 ?_
    rotate_left
    · intro w hSw; (try dsimp only at hSw); obtain ⟨⟨z0, z1⟩, z2, z3⟩ := hSw; go_simp; (try with_reducible rfl)
    (try simp only [List.getElem_toArray, List.getElem_cons_succ, List.getElem_cons_zero])
    (try simp only [Act.put, List.setIfInBounds_toArray, List.set_cons_zero, List.set_cons_succ])
    refine wpHold_one (k := 1) (by kernel_rfl) rfl (fun K hK => ?_)
    (try simp only [List.getElem_toArray, List.getElem_cons_succ, List.getElem_cons_zero])
    go_simp
    refine (unhide HLI W2.drew bd0).mono ?_
    rintro e xw_1 ⟨v1, rfl, hl_1, hb_1⟩
    have cc_1 := below_step bd0 hb_1
    have hC_1 : (fun w' : World => (w'.cell? ⟨p5, 0, none⟩ = some (.int .i64 x) ∧ w'.cell? ⟨p5, 1, none⟩ = some (.int .i64 y)) ∧ w'.cell? ⟨p6, 0, none⟩ = some (.int .i64 z) ∧ w'.cell? ⟨p6, 1, none⟩ = some (.int .i64 u)) xw_1 := unhide HCC _ cc_1
    refine hK.out _ _ hC_1 ?_
    clear hK K
    (try simp only [Act.put, List.setIfInBounds_toArray, List.set_cons_zero, List.set_cons_succ])
    refine wpHold_one (k := 3) (by kernel_rfl) rfl (fun K hK => ?_)
    (try simp only [List.getElem_toArray, List.getElem_cons_succ, List.getElem_cons_zero])
    go_simp
    refine (unhide HOA xw_1).mono ?_
    rintro e xw_2 ⟨b_f, rfl, -, hz_2, hb_2⟩
    have cc_2 := below_step cc_1 hb_2
    have hC_2 : (fun w' : World => (w'.cell? ⟨p5, 0, none⟩ = some (.int .i64 x) ∧ w'.cell? ⟨p5, 1, none⟩ = some (.int .i64 y)) ∧ w'.cell? ⟨p6, 0, none⟩ = some (.int .i64 z) ∧ w'.cell? ⟨p6, 1, none⟩ = some (.int .i64 u)) xw_2 := unhide HCC _ cc_2
    refine hK.out _ _ hC_2 ?_
    clear hK K
    (try simp only [Act.put, List.setIfInBounds_toArray, List.set_cons_zero, List.set_cons_succ])
    refine wpHold_one (k := 5) (by kernel_rfl) rfl (fun K hK => ?_)
    (try simp only [List.getElem_toArray, List.getElem_cons_succ, List.getElem_cons_zero])
    go_simp
    refine (unhide HOB xw_2).mono ?_
    rintro e xw_3 ⟨b_p, rfl, -, hz_3, hb_3⟩
    have cc_3 := below_step cc_2 hb_3
    have hC_3 : (fun w' : World => (w'.cell? ⟨p5, 0, none⟩ = some (.int .i64 x) ∧ w'.cell? ⟨p5, 1, none⟩ = some (.int .i64 y)) ∧ w'.cell? ⟨p6, 0, none⟩ = some (.int .i64 z) ∧ w'.cell? ⟨p6, 1, none⟩ = some (.int .i64 u)) xw_3 := unhide HCC _ cc_3
    refine hK.out _ _ hC_3 ?_
    clear hK K
    (try simp only [Act.put, List.setIfInBounds_toArray, List.set_cons_zero, List.set_cons_succ])
    refine wpHold_one (k := 6) (by kernel_rfl) rfl (fun K hK => ?_)
    (try simp only [List.getElem_toArray, List.getElem_cons_succ, List.getElem_cons_zero])
    go_simp
    refine hK.out _ _ hC_3 ?_
    clear hK K
    (try simp only [Act.put, List.setIfInBounds_toArray, List.set_cons_zero, List.set_cons_succ])
    refine wpHold_one (k := 7) (by kernel_rfl) rfl (fun K hK => ?_)
    (try simp only [List.getElem_toArray, List.getElem_cons_succ, List.getElem_cons_zero])
    go_simp
    refine hK.out _ _ hC_3 ?_
    clear hK K
    (try simp only [Act.put, List.setIfInBounds_toArray, List.set_cons_zero, List.set_cons_succ])
    refine wpHold_one (k := 8) (by kernel_rfl) rfl (fun K hK => ?_)
    (try simp only [List.getElem_toArray, List.getElem_cons_succ, List.getElem_cons_zero])
    go_simp
    refine hK.out _ _ hC_3 ?_
    clear hK K
    (try simp only [Act.put, List.setIfInBounds_toArray, List.set_cons_zero, List.set_cons_succ])
    refine wpHold_done (by kernel_rfl) ?_ _
    have hl3 := ((hl_1.below hb_2).below hb_3)
    have hf3 := (hz_2.below hb_3)
    have hp3 := hz_3
    have HB3 := hide cc_3
    obtain ⟨W3, hW3⟩ : ∃ W, xw_3 = W := ⟨_, rfl⟩
    rw [hW3] at hl3 hf3 hp3 HB3 ⊢
    have HL3 : Hid (∀ W, Below W3.heap.size W3 W → RList W v1 qs) := fun W hW => hl3.below hW
    have HZF : Hid (∀ W, Below W3.heap.size W3 W → BRz W b_f 0 qf) := fun W hW => hf3.below hW
    have HZP : Hid (∀ W, Below W3.heap.size W3 W → BRz W b_p 0 qp) := fun W hW => hp3.below hW
    have HLC := hide (refLife_any v1 qs 1 W3 hl3 (unhide HRS) (by have := unhide HPL; omega))
    rw [hr] at HLC
    clear hl3 hf3 hp3 hW3 hC0 bd0 HLI hb_1 hC_1 cc_1 hb_2 hC_2 cc_2 hb_3 hC_3 cc_3 hl_1 hz_2 hz_3
    have HLGF := hide hlg
    clear hlg hpl
    go_wp2_with fail
    refine (unhide HLC).mono ?_
    rintro e w4 ⟨rfl, hb4⟩
    have HB4 := hide hb4
    clear hb4 HLC
    rcases unhide HKI with hE | ⟨hr0, hF⟩ | ⟨hr0, hF, hP⟩ | ⟨hr0, hF, hP, a1⟩ | ⟨hr0, hF, hP, a1, a2⟩ | ⟨hr0, hF, hP, a1, a2⟩
    case' inl =>
      have hk : rcc qs qf qp = r := by
        unfold rcc; rw [hr, if_neg hE]
      have hk0 : r ≠ 0 := hE
      have kz : (r == 0) = false := by rw [beq_eq_false_iff_ne]; exact hE
      have kz2 : ¬ r = 0 := hE
      obtain ⟨n1, ev, q1, HAG, HWH0, HON0⟩ : ∃ (n1 : Int) (ev : Value) (q1 : Rat), Hid (∀ v1 v2 v3 W, LawIs W v1 qs → RatIs W v2 qf → RatIs W v3 qp → Calls Tryz.prog 36 #[v1, v2, v3] W fun e w' => ∃ t : Tri, e = .returned (.tuple #[.int .i64 n1, t.val, ev]) ∧ RatIs w' t.val q1 ∧ Below W.heap.size W w') ∧ Hid (∀ W, Below W2.heap.size W2 W → Calls Tryz.prog 37 #[.int .i64 n1, ev, .int .i64 0, .int .i64 r] W fun e w' => e = .returned (.bool true) ∧ Below W.heap.size W w') ∧ Hid (∀ W (t : Tri) b, Below W2.heap.size W2 W → RatIs W t.val q1 → Calls Tryz.prog 16 #[t.val, ev, .pointer (some ⟨b, 0, none⟩), .int .i64 r] W fun e w' => e = .returned (.bool true) ∧ Below W.heap.size W w') :=
        ⟨0, .iface 27 (.int .i64 r), 0, fun v1 v2 v3 W k1 k2 k3 => (age_err v1 v2 v3 qs qf qp 1 r W k1 k2 k3 (unhide HRS) (by rw [KKe]; have := unhide HPL; have := unhide HLGF; omega) hk hk0).mono (by
          rintro e w' ⟨rfl, hb⟩
          exact ⟨zTri, rfl, rat_zero _, hb⟩), fun W hW => whole_bad' 0 r hk0 W (unhide HGT W hW), fun W t b hW hr => one_err t.val b r hk0 W hr (unhide HTB W hW) (unhide HGT W hW)⟩
      obtain ⟨ev2, q2, HCG, HONE⟩ : ∃ (ev2 : Value) (q2 : Rat), Hid (∀ v1 v2 v3 W, LawIs W v1 qs → RatIs W v2 qf → RatIs W v3 qp → Calls Tryz.prog 39 #[v1, v2, v3, .int .i64 age] W fun e w' => ∃ t : Tri, e = .returned (.tuple #[t.val, ev2]) ∧ RatIs w' t.val q2 ∧ Below W.heap.size W w') ∧ Hid (∀ W (t : Tri) b, Below W2.heap.size W2 W → RatIs W t.val q2 → Calls Tryz.prog 16 #[t.val, ev2, .pointer (some ⟨b, 0, none⟩), .int .i64 r] W fun e w' => e = .returned (.bool true) ∧ Below W.heap.size W w') :=
        ⟨.iface 27 (.int .i64 r), 0, fun v1 v2 v3 W k1 k2 k3 => (cost_err age v1 v2 v3 qs qf qp 1 r W k1 k2 k3 (unhide HRS) (by rw [KKe]; have := unhide HPL; have := unhide HLGF; omega) hk hk0).mono (by
          rintro e w' ⟨rfl, hb⟩
          exact ⟨zTri, rfl, rat_zero _, hb⟩), fun W t b hW hr => one_err t.val b r hk0 W hr (unhide HTB W hW) (unhide HGT W hW)⟩
      clear hk
      clear hr hE
      have HI7 := hide (refIntz_any 0 (by decide) (by decide) w4)
      go_wp2_with fail
      refine (unhide HI7).mono ?_
      rintro e w5 ⟨b14, rfl, -, zi7, hbi7⟩
      have HB5 := hide (below_step (unhide HB4) hbi7)
      have HON1 : Hid (∀ W (t : Tri), Below w5.heap.size w5 W → RatIs W t.val q1 → Calls Tryz.prog 16 #[t.val, ev, .pointer (some ⟨b14, 0, none⟩), .int .i64 r] W fun e w' => e = .returned (.bool true) ∧ Below W.heap.size W w') := fun W t hW hr => unhide HON0 W t b14 (below_step (unhide HB3) (below_step (unhide HB5) hW)) hr
      clear zi7 hbi7 HI7 HON0 HB4
    case' inr.inl =>
      have hk : rcc qs qf qp = 1 := by
        unfold rcc; rw [hr, if_pos hr0, if_pos (Or.inl hF)]
      have hk0 : (1 : Int) ≠ 0 := by decide
      subst hr0
      obtain ⟨n1, ev, q1, HAG, HWH0, HON0⟩ : ∃ (n1 : Int) (ev : Value) (q1 : Rat), Hid (∀ v1 v2 v3 W, LawIs W v1 qs → RatIs W v2 qf → RatIs W v3 qp → Calls Tryz.prog 36 #[v1, v2, v3] W fun e w' => ∃ t : Tri, e = .returned (.tuple #[.int .i64 n1, t.val, ev]) ∧ RatIs w' t.val q1 ∧ Below W.heap.size W w') ∧ Hid (∀ W, Below W2.heap.size W2 W → Calls Tryz.prog 37 #[.int .i64 n1, ev, .int .i64 0, .int .i64 1] W fun e w' => e = .returned (.bool true) ∧ Below W.heap.size W w') ∧ Hid (∀ W (t : Tri) b, Below W2.heap.size W2 W → RatIs W t.val q1 → Calls Tryz.prog 16 #[t.val, ev, .pointer (some ⟨b, 0, none⟩), .int .i64 1] W fun e w' => e = .returned (.bool true) ∧ Below W.heap.size W w') :=
        ⟨0, .iface 27 (.int .i64 1), 0, fun v1 v2 v3 W k1 k2 k3 => (age_err v1 v2 v3 qs qf qp 1 1 W k1 k2 k3 (unhide HRS) (by rw [KKe]; have := unhide HPL; have := unhide HLGF; omega) hk hk0).mono (by
          rintro e w' ⟨rfl, hb⟩
          exact ⟨zTri, rfl, rat_zero _, hb⟩), fun W hW => whole_bad' 0 1 hk0 W (unhide HGT W hW), fun W t b hW hr => one_err t.val b 1 hk0 W hr (unhide HTB W hW) (unhide HGT W hW)⟩
      obtain ⟨ev2, q2, HCG, HONE⟩ : ∃ (ev2 : Value) (q2 : Rat), Hid (∀ v1 v2 v3 W, LawIs W v1 qs → RatIs W v2 qf → RatIs W v3 qp → Calls Tryz.prog 39 #[v1, v2, v3, .int .i64 age] W fun e w' => ∃ t : Tri, e = .returned (.tuple #[t.val, ev2]) ∧ RatIs w' t.val q2 ∧ Below W.heap.size W w') ∧ Hid (∀ W (t : Tri) b, Below W2.heap.size W2 W → RatIs W t.val q2 → Calls Tryz.prog 16 #[t.val, ev2, .pointer (some ⟨b, 0, none⟩), .int .i64 1] W fun e w' => e = .returned (.bool true) ∧ Below W.heap.size W w') :=
        ⟨.iface 27 (.int .i64 1), 0, fun v1 v2 v3 W k1 k2 k3 => (cost_err age v1 v2 v3 qs qf qp 1 1 W k1 k2 k3 (unhide HRS) (by rw [KKe]; have := unhide HPL; have := unhide HLGF; omega) hk hk0).mono (by
          rintro e w' ⟨rfl, hb⟩
          exact ⟨zTri, rfl, rat_zero _, hb⟩), fun W t b hW hr => one_err t.val b 1 hk0 W hr (unhide HTB W hW) (unhide HGT W hW)⟩
      clear hk
      have hs1 := sign_ltc.2 hF
      clear hr hF
      have HSG1 := hide (signz_any b_f 0 qf w4 (unhide HZF w4 (unhide HB4)))
      obtain ⟨sg1, hsg1⟩ : ∃ s, qf.num.sign = s := ⟨_, rfl⟩
      rw [hsg1] at HSG1 hs1
      clear hsg1
      go_wp2_with fail
      refine (unhide HSG1).mono ?_
      rintro e w_ ⟨rfl, hw⟩
      have hw' := hw.symm
      subst hw'
      clear hw HSG1
      have HI7 := hide (refIntz_any 0 (by decide) (by decide) w4)
      go_wp2_with fail
      refine (unhide HI7).mono ?_
      rintro e w5 ⟨b14, rfl, -, zi7, hbi7⟩
      have HB5 := hide (below_step (unhide HB4) hbi7)
      have HON1 : Hid (∀ W (t : Tri), Below w5.heap.size w5 W → RatIs W t.val q1 → Calls Tryz.prog 16 #[t.val, ev, .pointer (some ⟨b14, 0, none⟩), .int .i64 1] W fun e w' => e = .returned (.bool true) ∧ Below W.heap.size W w') := fun W t hW hr => unhide HON0 W t b14 (below_step (unhide HB3) (below_step (unhide HB5) hW)) hr
      clear zi7 hbi7 HI7 HON0 HB4
    case' inr.inr.inl =>
      have hk : rcc qs qf qp = 1 := by
        unfold rcc; rw [hr, if_pos hr0, if_pos (Or.inr hP)]
      have hk0 : (1 : Int) ≠ 0 := by decide
      subst hr0
      obtain ⟨n1, ev, q1, HAG, HWH0, HON0⟩ : ∃ (n1 : Int) (ev : Value) (q1 : Rat), Hid (∀ v1 v2 v3 W, LawIs W v1 qs → RatIs W v2 qf → RatIs W v3 qp → Calls Tryz.prog 36 #[v1, v2, v3] W fun e w' => ∃ t : Tri, e = .returned (.tuple #[.int .i64 n1, t.val, ev]) ∧ RatIs w' t.val q1 ∧ Below W.heap.size W w') ∧ Hid (∀ W, Below W2.heap.size W2 W → Calls Tryz.prog 37 #[.int .i64 n1, ev, .int .i64 0, .int .i64 1] W fun e w' => e = .returned (.bool true) ∧ Below W.heap.size W w') ∧ Hid (∀ W (t : Tri) b, Below W2.heap.size W2 W → RatIs W t.val q1 → Calls Tryz.prog 16 #[t.val, ev, .pointer (some ⟨b, 0, none⟩), .int .i64 1] W fun e w' => e = .returned (.bool true) ∧ Below W.heap.size W w') :=
        ⟨0, .iface 27 (.int .i64 1), 0, fun v1 v2 v3 W k1 k2 k3 => (age_err v1 v2 v3 qs qf qp 1 1 W k1 k2 k3 (unhide HRS) (by rw [KKe]; have := unhide HPL; have := unhide HLGF; omega) hk hk0).mono (by
          rintro e w' ⟨rfl, hb⟩
          exact ⟨zTri, rfl, rat_zero _, hb⟩), fun W hW => whole_bad' 0 1 hk0 W (unhide HGT W hW), fun W t b hW hr => one_err t.val b 1 hk0 W hr (unhide HTB W hW) (unhide HGT W hW)⟩
      obtain ⟨ev2, q2, HCG, HONE⟩ : ∃ (ev2 : Value) (q2 : Rat), Hid (∀ v1 v2 v3 W, LawIs W v1 qs → RatIs W v2 qf → RatIs W v3 qp → Calls Tryz.prog 39 #[v1, v2, v3, .int .i64 age] W fun e w' => ∃ t : Tri, e = .returned (.tuple #[t.val, ev2]) ∧ RatIs w' t.val q2 ∧ Below W.heap.size W w') ∧ Hid (∀ W (t : Tri) b, Below W2.heap.size W2 W → RatIs W t.val q2 → Calls Tryz.prog 16 #[t.val, ev2, .pointer (some ⟨b, 0, none⟩), .int .i64 1] W fun e w' => e = .returned (.bool true) ∧ Below W.heap.size W w') :=
        ⟨.iface 27 (.int .i64 1), 0, fun v1 v2 v3 W k1 k2 k3 => (cost_err age v1 v2 v3 qs qf qp 1 1 W k1 k2 k3 (unhide HRS) (by rw [KKe]; have := unhide HPL; have := unhide HLGF; omega) hk hk0).mono (by
          rintro e w' ⟨rfl, hb⟩
          exact ⟨zTri, rfl, rat_zero _, hb⟩), fun W t b hW hr => one_err t.val b 1 hk0 W hr (unhide HTB W hW) (unhide HGT W hW)⟩
      clear hk
      have hs1 : ¬ qf.num.sign < 0 := fun h => by have := sign_ltc.1 h; omega
      have hs2 := sign_ltc.2 hP
      clear hr hF hP
      have HSG1 := hide (signz_any b_f 0 qf w4 (unhide HZF w4 (unhide HB4)))
      obtain ⟨sg1, hsg1⟩ : ∃ s, qf.num.sign = s := ⟨_, rfl⟩
      rw [hsg1] at HSG1 hs1
      clear hsg1
      go_wp2_with fail
      refine (unhide HSG1).mono ?_
      rintro e w_ ⟨rfl, hw⟩
      have hw' := hw.symm
      subst hw'
      clear hw HSG1
      have HSG2 := hide (signz_any b_p 0 qp w4 (unhide HZP w4 (unhide HB4)))
      obtain ⟨sg2, hsg2⟩ : ∃ s, qp.num.sign = s := ⟨_, rfl⟩
      rw [hsg2] at HSG2 hs2
      clear hsg2
      go_wp2_with fail
      refine (unhide HSG2).mono ?_
      rintro e w_ ⟨rfl, hw⟩
      have hw' := hw.symm
      subst hw'
      clear hw HSG2
      have HI7 := hide (refIntz_any 0 (by decide) (by decide) w4)
      go_wp2_with fail
      refine (unhide HI7).mono ?_
      rintro e w5 ⟨b14, rfl, -, zi7, hbi7⟩
      have HB5 := hide (below_step (unhide HB4) hbi7)
      have HON1 : Hid (∀ W (t : Tri), Below w5.heap.size w5 W → RatIs W t.val q1 → Calls Tryz.prog 16 #[t.val, ev, .pointer (some ⟨b14, 0, none⟩), .int .i64 1] W fun e w' => e = .returned (.bool true) ∧ Below W.heap.size W w') := fun W t hW hr => unhide HON0 W t b14 (below_step (unhide HB3) (below_step (unhide HB5) hW)) hr
      clear zi7 hbi7 HI7 HON0 HB4
    case' inr.inr.inr.inl =>
      subst hr0
      have hk : rcc qs qf qp = 0 := by
        unfold rcc; rw [hr, if_pos rfl, if_neg (by omega)]
      have hA := agl_of hr (unhide HRS)
      have hgle : gst qs ≤ 100 := by have := (rnc_age hr).2.2; omega
      have hbl := Rnw.bst_le (Rnw.cst qf qp (xq qs)) (gst qs) (rnc_age hr).1.g1
      have HFS : Hid (∀ m : Nat, 1 ≤ m → m ≤ 1000 → RS (Rnw.cst qf qp (xq qs) m) 700) := fun m h1 h2 => hA.cs (unhide HRA) (unhide HRB) h1 h2
      obtain ⟨n1, ev, q1, HAG, HWH0, HON0, HRG0⟩ : ∃ (n1 : Int) (ev : Value) (q1 : Rat), Hid (∀ v1 v2 v3 W, LawIs W v1 qs → RatIs W v2 qf → RatIs W v3 qp → Calls Tryz.prog 36 #[v1, v2, v3] W fun e w' => ∃ t : Tri, e = .returned (.tuple #[.int .i64 n1, t.val, ev]) ∧ RatIs w' t.val q1 ∧ Below W.heap.size W w') ∧ Hid (∀ W, Below W2.heap.size W2 W → Calls Tryz.prog 37 #[.int .i64 n1, ev, .int .i64 n1, .int .i64 0] W fun e w' => e = .returned (.bool true) ∧ Below W.heap.size W w') ∧ Hid (∀ W (t : Tri) b, Below W2.heap.size W2 W → RatIs W t.val q1 → BRz W b 0 q1 → Calls Tryz.prog 16 #[t.val, ev, .pointer (some ⟨b, 0, none⟩), .int .i64 0] W fun e w' => e = .returned (.bool true) ∧ Below W.heap.size W w') ∧ Hid (∀ W v1 b1 b2, RList W v1 qs → BRz W b1 0 qf → BRz W b2 0 qp → Calls Tryz.prog 35 #[v1, .pointer (some ⟨b1, 0, none⟩), .pointer (some ⟨b2, 0, none⟩)] W fun e w' => ∃ g, e = .returned (.tuple #[.int .i64 n1, .pointer (some ⟨g, 0, none⟩)]) ∧ BRz w' g 0 q1 ∧ Below W.heap.size W w') :=
        ⟨(Rnw.bst (Rnw.cst qf qp (xq qs)) (gst qs) : Int), .nilIface, Rnw.cst qf qp (xq qs) (Rnw.bst (Rnw.cst qf qp (xq qs)) (gst qs)), fun v1 v2 v3 W k1 k2 k3 => (age_ok v1 v2 v3 qs qf qp 1 22000 90000 W k1 k2 k3 (unhide HRS) ((unhide HRA).mono (by omega)) ((unhide HRB).mono (by omega)) hk (by omega) (by omega) (by rw [KKe]; omega)).mono (by
          rintro e w' ⟨v, rfl, hv, hb⟩
          obtain ⟨t, rfl, hr⟩ := tri_of hv
          exact ⟨t, rfl, hr, hb⟩), fun W _ => whole_good' _ W, fun W t b hW hr hz => one_ok t.val _ b 700 W hr (unhide HFS _ hbl.1 (by omega)) (by decide) (unhide HTB W hW) hz, fun W v1 b1 b2 k1 k2 k3 => refAge_any v1 qs qf qp b1 b2 W k1 hr (unhide HRS) k2 k3 (unhide HRA) (unhide HRB)⟩
      obtain ⟨ev2, q2, HCG, HONE⟩ : ∃ (ev2 : Value) (q2 : Rat), Hid (∀ v1 v2 v3 W, LawIs W v1 qs → RatIs W v2 qf → RatIs W v3 qp → Calls Tryz.prog 39 #[v1, v2, v3, .int .i64 age] W fun e w' => ∃ t : Tri, e = .returned (.tuple #[t.val, ev2]) ∧ RatIs w' t.val q2 ∧ Below W.heap.size W w') ∧ Hid (∀ W (t : Tri) b, Below W2.heap.size W2 W → RatIs W t.val q2 → Calls Tryz.prog 16 #[t.val, ev2, .pointer (some ⟨b, 0, none⟩), .int .i64 2] W fun e w' => e = .returned (.bool true) ∧ Below W.heap.size W w') :=
        ⟨.iface 27 (.int .i64 2), 0, fun v1 v2 v3 W k1 k2 k3 => (cost_range age v1 v2 v3 qs qf qp 1 W k1 k2 k3 (unhide HRS) (by rw [KKe]; have := unhide HPL; have := unhide HLGF; omega) hk (by omega)).mono (by
          rintro e w' ⟨rfl, hb⟩
          exact ⟨zTri, rfl, rat_zero _, hb⟩), fun W t b hW hr => one_err t.val b 2 (by decide) W hr (unhide HTB W hW) (unhide HGT W hW)⟩
      have hs1 : ¬ qf.num.sign < 0 := fun h => by have := sign_ltc.1 h; omega
      have hs2 : ¬ qp.num.sign < 0 := fun h => by have := sign_ltc.1 h; omega
      clear hk hA hgle hbl hF hP hr HFS
      have HSG1 := hide (signz_any b_f 0 qf w4 (unhide HZF w4 (unhide HB4)))
      obtain ⟨sg1, hsg1⟩ : ∃ s, qf.num.sign = s := ⟨_, rfl⟩
      rw [hsg1] at HSG1 hs1
      clear hsg1
      go_wp2_with fail
      refine (unhide HSG1).mono ?_
      rintro e w_ ⟨rfl, hw⟩
      have hw' := hw.symm
      subst hw'
      clear hw HSG1
      have HSG2 := hide (signz_any b_p 0 qp w4 (unhide HZP w4 (unhide HB4)))
      obtain ⟨sg2, hsg2⟩ : ∃ s, qp.num.sign = s := ⟨_, rfl⟩
      rw [hsg2] at HSG2 hs2
      clear hsg2
      go_wp2_with fail
      refine (unhide HSG2).mono ?_
      rintro e w_ ⟨rfl, hw⟩
      have hw' := hw.symm
      subst hw'
      clear hw HSG2
      have HI7 := hide (refIntz_any 0 (by decide) (by decide) w4)
      go_wp2_with fail
      refine (unhide HI7).mono ?_
      rintro e wi7 ⟨b13, rfl, -, zi7, hbi7⟩
      have HBi7 := hide (below_step (unhide HB4) hbi7)
      have HRG := hide (unhide HRG0 wi7 v1 b_f b_p (unhide HL3 _ (unhide HBi7)) (unhide HZF _ (unhide HBi7)) (unhide HZP _ (unhide HBi7)))
      clear zi7 hbi7 HI7 HB4 HRG0
      go_wp2_with fail
      refine (unhide HRG).mono ?_
      rintro e w5 ⟨b14, rfl, z14, hb5⟩
      have HB5 := hide (below_step (unhide HBi7) hb5)
      have HON1 : Hid (∀ W (t : Tri), Below w5.heap.size w5 W → RatIs W t.val q1 → Calls Tryz.prog 16 #[t.val, ev, .pointer (some ⟨b14, 0, none⟩), .int .i64 0] W fun e w' => e = .returned (.bool true) ∧ Below W.heap.size W w') := fun W t hW hr => unhide HON0 W t b14 (below_step (unhide HB3) (below_step (unhide HB5) hW)) hr (z14.below hW)
      clear hb5 HRG HBi7 HON0 z14
    case' inr.inr.inr.inr.inl =>
      subst hr0
      have hk : rcc qs qf qp = 0 := by
        unfold rcc; rw [hr, if_pos rfl, if_neg (by omega)]
      have hA := agl_of hr (unhide HRS)
      have hgle : gst qs ≤ 100 := by have := (rnc_age hr).2.2; omega
      have hbl := Rnw.bst_le (Rnw.cst qf qp (xq qs)) (gst qs) (rnc_age hr).1.g1
      have HFS : Hid (∀ m : Nat, 1 ≤ m → m ≤ 1000 → RS (Rnw.cst qf qp (xq qs) m) 700) := fun m h1 h2 => hA.cs (unhide HRA) (unhide HRB) h1 h2
      obtain ⟨n1, ev, q1, HAG, HWH0, HON0, HRG0⟩ : ∃ (n1 : Int) (ev : Value) (q1 : Rat), Hid (∀ v1 v2 v3 W, LawIs W v1 qs → RatIs W v2 qf → RatIs W v3 qp → Calls Tryz.prog 36 #[v1, v2, v3] W fun e w' => ∃ t : Tri, e = .returned (.tuple #[.int .i64 n1, t.val, ev]) ∧ RatIs w' t.val q1 ∧ Below W.heap.size W w') ∧ Hid (∀ W, Below W2.heap.size W2 W → Calls Tryz.prog 37 #[.int .i64 n1, ev, .int .i64 n1, .int .i64 0] W fun e w' => e = .returned (.bool true) ∧ Below W.heap.size W w') ∧ Hid (∀ W (t : Tri) b, Below W2.heap.size W2 W → RatIs W t.val q1 → BRz W b 0 q1 → Calls Tryz.prog 16 #[t.val, ev, .pointer (some ⟨b, 0, none⟩), .int .i64 0] W fun e w' => e = .returned (.bool true) ∧ Below W.heap.size W w') ∧ Hid (∀ W v1 b1 b2, RList W v1 qs → BRz W b1 0 qf → BRz W b2 0 qp → Calls Tryz.prog 35 #[v1, .pointer (some ⟨b1, 0, none⟩), .pointer (some ⟨b2, 0, none⟩)] W fun e w' => ∃ g, e = .returned (.tuple #[.int .i64 n1, .pointer (some ⟨g, 0, none⟩)]) ∧ BRz w' g 0 q1 ∧ Below W.heap.size W w') :=
        ⟨(Rnw.bst (Rnw.cst qf qp (xq qs)) (gst qs) : Int), .nilIface, Rnw.cst qf qp (xq qs) (Rnw.bst (Rnw.cst qf qp (xq qs)) (gst qs)), fun v1 v2 v3 W k1 k2 k3 => (age_ok v1 v2 v3 qs qf qp 1 22000 90000 W k1 k2 k3 (unhide HRS) ((unhide HRA).mono (by omega)) ((unhide HRB).mono (by omega)) hk (by omega) (by omega) (by rw [KKe]; omega)).mono (by
          rintro e w' ⟨v, rfl, hv, hb⟩
          obtain ⟨t, rfl, hr⟩ := tri_of hv
          exact ⟨t, rfl, hr, hb⟩), fun W _ => whole_good' _ W, fun W t b hW hr hz => one_ok t.val _ b 700 W hr (unhide HFS _ hbl.1 (by omega)) (by decide) (unhide HTB W hW) hz, fun W v1 b1 b2 k1 k2 k3 => refAge_any v1 qs qf qp b1 b2 W k1 hr (unhide HRS) k2 k3 (unhide HRA) (unhide HRB)⟩
      obtain ⟨ev2, q2, HCG, HONE⟩ : ∃ (ev2 : Value) (q2 : Rat), Hid (∀ v1 v2 v3 W, LawIs W v1 qs → RatIs W v2 qf → RatIs W v3 qp → Calls Tryz.prog 39 #[v1, v2, v3, .int .i64 age] W fun e w' => ∃ t : Tri, e = .returned (.tuple #[t.val, ev2]) ∧ RatIs w' t.val q2 ∧ Below W.heap.size W w') ∧ Hid (∀ W (t : Tri) b, Below W2.heap.size W2 W → RatIs W t.val q2 → Calls Tryz.prog 16 #[t.val, ev2, .pointer (some ⟨b, 0, none⟩), .int .i64 2] W fun e w' => e = .returned (.bool true) ∧ Below W.heap.size W w') :=
        ⟨.iface 27 (.int .i64 2), 0, fun v1 v2 v3 W k1 k2 k3 => (cost_range age v1 v2 v3 qs qf qp 1 W k1 k2 k3 (unhide HRS) (by rw [KKe]; have := unhide HPL; have := unhide HLGF; omega) hk (by omega)).mono (by
          rintro e w' ⟨rfl, hb⟩
          exact ⟨zTri, rfl, rat_zero _, hb⟩), fun W t b hW hr => one_err t.val b 2 (by decide) W hr (unhide HTB W hW) (unhide HGT W hW)⟩
      have hs1 : ¬ qf.num.sign < 0 := fun h => by have := sign_ltc.1 h; omega
      have hs2 : ¬ qp.num.sign < 0 := fun h => by have := sign_ltc.1 h; omega
      clear hk hA hgle hbl hF hP hr HFS
      have HSG1 := hide (signz_any b_f 0 qf w4 (unhide HZF w4 (unhide HB4)))
      obtain ⟨sg1, hsg1⟩ : ∃ s, qf.num.sign = s := ⟨_, rfl⟩
      rw [hsg1] at HSG1 hs1
      clear hsg1
      go_wp2_with fail
      refine (unhide HSG1).mono ?_
      rintro e w_ ⟨rfl, hw⟩
      have hw' := hw.symm
      subst hw'
      clear hw HSG1
      have HSG2 := hide (signz_any b_p 0 qp w4 (unhide HZP w4 (unhide HB4)))
      obtain ⟨sg2, hsg2⟩ : ∃ s, qp.num.sign = s := ⟨_, rfl⟩
      rw [hsg2] at HSG2 hs2
      clear hsg2
      go_wp2_with fail
      refine (unhide HSG2).mono ?_
      rintro e w_ ⟨rfl, hw⟩
      have hw' := hw.symm
      subst hw'
      clear hw HSG2
      have HI7 := hide (refIntz_any 0 (by decide) (by decide) w4)
      go_wp2_with fail
      refine (unhide HI7).mono ?_
      rintro e wi7 ⟨b13, rfl, -, zi7, hbi7⟩
      have HBi7 := hide (below_step (unhide HB4) hbi7)
      have HRG := hide (unhide HRG0 wi7 v1 b_f b_p (unhide HL3 _ (unhide HBi7)) (unhide HZF _ (unhide HBi7)) (unhide HZP _ (unhide HBi7)))
      clear zi7 hbi7 HI7 HB4 HRG0
      go_wp2_with fail
      refine (unhide HRG).mono ?_
      rintro e w5 ⟨b14, rfl, z14, hb5⟩
      have HB5 := hide (below_step (unhide HBi7) hb5)
      have HON1 : Hid (∀ W (t : Tri), Below w5.heap.size w5 W → RatIs W t.val q1 → Calls Tryz.prog 16 #[t.val, ev, .pointer (some ⟨b14, 0, none⟩), .int .i64 0] W fun e w' => e = .returned (.bool true) ∧ Below W.heap.size W w') := fun W t hW hr => unhide HON0 W t b14 (below_step (unhide HB3) (below_step (unhide HB5) hW)) hr (z14.below hW)
      clear hb5 HRG HBi7 HON0 z14
    case' inr.inr.inr.inr.inr =>
      subst hr0
      have hk : rcc qs qf qp = 0 := by
        unfold rcc; rw [hr, if_pos rfl, if_neg (by omega)]
      have hA := agl_of hr (unhide HRS)
      have hgle : gst qs ≤ 100 := by have := (rnc_age hr).2.2; omega
      have hbl := Rnw.bst_le (Rnw.cst qf qp (xq qs)) (gst qs) (rnc_age hr).1.g1
      have HFS : Hid (∀ m : Nat, 1 ≤ m → m ≤ 1000 → RS (Rnw.cst qf qp (xq qs) m) 700) := fun m h1 h2 => hA.cs (unhide HRA) (unhide HRB) h1 h2
      obtain ⟨n1, ev, q1, HAG, HWH0, HON0, HRG0⟩ : ∃ (n1 : Int) (ev : Value) (q1 : Rat), Hid (∀ v1 v2 v3 W, LawIs W v1 qs → RatIs W v2 qf → RatIs W v3 qp → Calls Tryz.prog 36 #[v1, v2, v3] W fun e w' => ∃ t : Tri, e = .returned (.tuple #[.int .i64 n1, t.val, ev]) ∧ RatIs w' t.val q1 ∧ Below W.heap.size W w') ∧ Hid (∀ W, Below W2.heap.size W2 W → Calls Tryz.prog 37 #[.int .i64 n1, ev, .int .i64 n1, .int .i64 0] W fun e w' => e = .returned (.bool true) ∧ Below W.heap.size W w') ∧ Hid (∀ W (t : Tri) b, Below W2.heap.size W2 W → RatIs W t.val q1 → BRz W b 0 q1 → Calls Tryz.prog 16 #[t.val, ev, .pointer (some ⟨b, 0, none⟩), .int .i64 0] W fun e w' => e = .returned (.bool true) ∧ Below W.heap.size W w') ∧ Hid (∀ W v1 b1 b2, RList W v1 qs → BRz W b1 0 qf → BRz W b2 0 qp → Calls Tryz.prog 35 #[v1, .pointer (some ⟨b1, 0, none⟩), .pointer (some ⟨b2, 0, none⟩)] W fun e w' => ∃ g, e = .returned (.tuple #[.int .i64 n1, .pointer (some ⟨g, 0, none⟩)]) ∧ BRz w' g 0 q1 ∧ Below W.heap.size W w') :=
        ⟨(Rnw.bst (Rnw.cst qf qp (xq qs)) (gst qs) : Int), .nilIface, Rnw.cst qf qp (xq qs) (Rnw.bst (Rnw.cst qf qp (xq qs)) (gst qs)), fun v1 v2 v3 W k1 k2 k3 => (age_ok v1 v2 v3 qs qf qp 1 22000 90000 W k1 k2 k3 (unhide HRS) ((unhide HRA).mono (by omega)) ((unhide HRB).mono (by omega)) hk (by omega) (by omega) (by rw [KKe]; omega)).mono (by
          rintro e w' ⟨v, rfl, hv, hb⟩
          obtain ⟨t, rfl, hr⟩ := tri_of hv
          exact ⟨t, rfl, hr, hb⟩), fun W _ => whole_good' _ W, fun W t b hW hr hz => one_ok t.val _ b 700 W hr (unhide HFS _ hbl.1 (by omega)) (by decide) (unhide HTB W hW) hz, fun W v1 b1 b2 k1 k2 k3 => refAge_any v1 qs qf qp b1 b2 W k1 hr (unhide HRS) k2 k3 (unhide HRA) (unhide HRB)⟩
      obtain ⟨aN, rfl⟩ : ∃ m : Nat, age = (m : Int) := ⟨age.toNat, by omega⟩
      obtain ⟨ev2, q2, HCG, HONK, HRC0⟩ : ∃ (ev2 : Value) (q2 : Rat), Hid (∀ v1 v2 v3 W, LawIs W v1 qs → RatIs W v2 qf → RatIs W v3 qp → Calls Tryz.prog 39 #[v1, v2, v3, .int .i64 (aN : Int)] W fun e w' => ∃ t : Tri, e = .returned (.tuple #[t.val, ev2]) ∧ RatIs w' t.val q2 ∧ Below W.heap.size W w') ∧ Hid (∀ W (t : Tri) b, Below W2.heap.size W2 W → RatIs W t.val q2 → BRz W b 0 q2 → Calls Tryz.prog 16 #[t.val, ev2, .pointer (some ⟨b, 0, none⟩), .int .i64 0] W fun e w' => e = .returned (.bool true) ∧ Below W.heap.size W w') ∧ Hid (∀ W v1 b1 b2, RList W v1 qs → BRz W b1 0 qf → BRz W b2 0 qp → Calls Tryz.prog 38 #[v1, .pointer (some ⟨b1, 0, none⟩), .pointer (some ⟨b2, 0, none⟩), .int .i64 (aN : Int)] W (NewsZ W q2)) :=
        ⟨.nilIface, Rnw.cst qf qp (xq qs) aN, fun v1 v2 v3 W k1 k2 k3 => (rCost_ok v1 v2 v3 qs qf qp 1 22000 90000 aN W k1 k2 k3 (unhide HRS) ((unhide HRA).mono (by omega)) ((unhide HRB).mono (by omega)) hk (by omega) (by omega) (by rw [KKe]; omega) (by omega) (by omega)).mono (by
          rintro e w' ⟨v, rfl, hv, hb⟩
          obtain ⟨t, rfl, hr⟩ := tri_of hv
          exact ⟨t, rfl, hr, hb⟩), fun W t b hW hr hz => one_ok t.val _ b 700 W hr (unhide HFS _ (by omega) (by omega)) (by decide) (unhide HTB W hW) hz, fun W v1 b1 b2 k1 k2 k3 => refCost_any v1 qs (gst qs) qf qp b1 b2 aN W k1 hA k2 k3 (unhide HRA) (unhide HRB) (by omega) (by omega)⟩
      have hs1 : ¬ qf.num.sign < 0 := fun h => by have := sign_ltc.1 h; omega
      have hs2 : ¬ qp.num.sign < 0 := fun h => by have := sign_ltc.1 h; omega
      clear hk hA hgle hbl hF hP hr HFS
      have HSG1 := hide (signz_any b_f 0 qf w4 (unhide HZF w4 (unhide HB4)))
      obtain ⟨sg1, hsg1⟩ : ∃ s, qf.num.sign = s := ⟨_, rfl⟩
      rw [hsg1] at HSG1 hs1
      clear hsg1
      go_wp2_with fail
      refine (unhide HSG1).mono ?_
      rintro e w_ ⟨rfl, hw⟩
      have hw' := hw.symm
      subst hw'
      clear hw HSG1
      have HSG2 := hide (signz_any b_p 0 qp w4 (unhide HZP w4 (unhide HB4)))
      obtain ⟨sg2, hsg2⟩ : ∃ s, qp.num.sign = s := ⟨_, rfl⟩
      rw [hsg2] at HSG2 hs2
      clear hsg2
      go_wp2_with fail
      refine (unhide HSG2).mono ?_
      rintro e w_ ⟨rfl, hw⟩
      have hw' := hw.symm
      subst hw'
      clear hw HSG2
      have HI7 := hide (refIntz_any 0 (by decide) (by decide) w4)
      go_wp2_with fail
      refine (unhide HI7).mono ?_
      rintro e wi7 ⟨b13, rfl, -, zi7, hbi7⟩
      have HBi7 := hide (below_step (unhide HB4) hbi7)
      have HRG := hide (unhide HRG0 wi7 v1 b_f b_p (unhide HL3 _ (unhide HBi7)) (unhide HZF _ (unhide HBi7)) (unhide HZP _ (unhide HBi7)))
      clear zi7 hbi7 HI7 HB4 HRG0
      go_wp2_with fail
      refine (unhide HRG).mono ?_
      rintro e w5 ⟨b14, rfl, z14, hb5⟩
      have HB5 := hide (below_step (unhide HBi7) hb5)
      have HON1 : Hid (∀ W (t : Tri), Below w5.heap.size w5 W → RatIs W t.val q1 → Calls Tryz.prog 16 #[t.val, ev, .pointer (some ⟨b14, 0, none⟩), .int .i64 0] W fun e w' => e = .returned (.bool true) ∧ Below W.heap.size W w') := fun W t hW hr => unhide HON0 W t b14 (below_step (unhide HB3) (below_step (unhide HB5) hW)) hr (z14.below hW)
      clear hb5 HRG HBi7 HON0 z14
    all_goals clear HKI
    all_goals
      have HC10 : Hid (∀ W, Below w5.heap.size w5 W → (fun w' : World => (w'.cell? ⟨p5, 0, none⟩ = some (.int .i64 x) ∧ w'.cell? ⟨p5, 1, none⟩ = some (.int .i64 y)) ∧ w'.cell? ⟨p6, 0, none⟩ = some (.int .i64 z) ∧ w'.cell? ⟨p6, 1, none⟩ = some (.int .i64 u)) W) := fun W hW => unhide HCC W (below_step (unhide HB3) (below_step (unhide HB5) hW))
      have HBR10 := hide (below_step (unhide HB3) (unhide HB5))
      go_wp2_with fail
      refine wp_region_hold (fun w' : World => (w'.cell? ⟨p5, 0, none⟩ = some (.int .i64 x) ∧ w'.cell? ⟨p5, 1, none⟩ = some (.int .i64 y)) ∧ w'.cell? ⟨p6, 0, none⟩ = some (.int .i64 z) ∧ w'.cell? ⟨p6, 1, none⟩ = some (.int .i64 u)) (by kernel_rfl) ?_
      have bd0 : Below w5.heap.size w5 w5.drew := (Below.refl _ _).drew
      obtain ⟨Wx, hWx⟩ : ∃ W, w5.drew = W := ⟨_, rfl⟩
      rw [hWx] at bd0 ⊢
      have hC0 : (fun w' : World => (w'.cell? ⟨p5, 0, none⟩ = some (.int .i64 x) ∧ w'.cell? ⟨p5, 1, none⟩ = some (.int .i64 y)) ∧ w'.cell? ⟨p6, 0, none⟩ = some (.int .i64 z) ∧ w'.cell? ⟨p6, 1, none⟩ = some (.int .i64 u)) Wx := unhide HC10 _ bd0
      have KP1 : Hid (∀ (w w' : World) (s : Value), (fun (w : World) (s : Value) => LawIs w s qs) w s → Below w.heap.size w w' → (fun (w : World) (s : Value) => LawIs w s qs) w' s) := fun _ _ _ h hb => LawIs.below h hb
      have KP2 : Hid (∀ (w w' : World) (s : Value), (fun (w : World) (s : Value) => RatIs w s qf) w s → Below w.heap.size w w' → (fun (w : World) (s : Value) => RatIs w s qf) w' s) := fun _ _ _ h hb => RatIs.below h hb
      have KP3 : Hid (∀ (w w' : World) (s : Value), (fun (w : World) (s : Value) => RatIs w s qp) w s → Below w.heap.size w w' → (fun (w : World) (s : Value) => RatIs w s qp) w' s) := fun _ _ _ h hb => RatIs.below h hb
      have KP4 : Hid (∀ (w w' : World) (s : Value), (fun (w : World) (s : Value) => ∃ t : Tri, s = .tuple #[.int .i64 n1, t.val, ev] ∧ RatIs w t.val (q1)) w s → Below w.heap.size w w' → (fun (w : World) (s : Value) => ∃ t : Tri, s = .tuple #[.int .i64 n1, t.val, ev] ∧ RatIs w t.val (q1)) w' s) := fun _ _ _ h hb => by obtain ⟨t, h1, h2⟩ := h; exact ⟨t, h1, h2.below hb⟩
      refine wpHold_take (i := 0) (v := ?_) rfl (by kernel_rfl) (by kernel_rfl) (by kernel_rfl) (fun _ _ _ h => h) (Or.inl ⟨by rfl, ?_⟩) hC0 ?_
      rotate_left
      · intro w hSw; clear hSw; go_simp; (try with_reducible rfl)
      (try simp only [List.getElem_toArray, List.getElem_cons_succ, List.getElem_cons_zero])
      (try simp only [Act.put, List.setIfInBounds_toArray, List.set_cons_zero, List.set_cons_succ])
      refine wpHold_take (i := 2) (v := ?_) rfl (by kernel_rfl) (by kernel_rfl) (by kernel_rfl) (fun _ _ _ h => h) (Or.inl ⟨by rfl, ?_⟩) hC0 ?_
      rotate_left
      · intro w hSw; (try dsimp only at hSw); obtain ⟨⟨z0, z1⟩, z2, z3⟩ := hSw; go_simp; (try with_reducible rfl)
      (try simp only [List.getElem_toArray, List.getElem_cons_succ, List.getElem_cons_zero])
      (try simp only [Act.put, List.setIfInBounds_toArray, List.set_cons_zero, List.set_cons_succ])
      refine wpHold_take (i := 4) (v := ?_) rfl (by kernel_rfl) (by kernel_rfl) (by kernel_rfl) (fun _ _ _ h => h) (Or.inl ⟨by rfl, ?_⟩) hC0 ?_
      rotate_left
      · intro w hSw; (try dsimp only at hSw); obtain ⟨⟨z0, z1⟩, z2, z3⟩ := hSw; go_simp; (try with_reducible rfl)
      (try simp only [List.getElem_toArray, List.getElem_cons_succ, List.getElem_cons_zero])
      (try simp only [Act.put, List.setIfInBounds_toArray, List.set_cons_zero, List.set_cons_succ])
      refine wpHold_listed (n := 12) (L' := (fun nc nl => #[true, decide (1 ≤ nc), true, decide (2 ≤ nc), true, decide (3 ≤ nc), decide (4 ≤ nc), false, false, false, false, nl, false, false, false]) 0 false) (by kernel_rfl) (by kernel_rfl) ?_
      refine wpHold_name (fun a0 ha0 => ?_)
      refine chain_fin 4 (fun nc nl => #[true, decide (1 ≤ nc), true, decide (2 ≤ nc), true, decide (3 ≤ nc), decide (4 ≤ nc), false, false, false, false, nl, false, false, false]) (fun nc => match nc with | 0 => 1 | 1 => 3 | 2 => 5 | _ => 6) 11 7 (fun nc nl na W => ∃ s1 s2 s3 s4 s5, na = ((((a0.put (some 55) s1).put (some 57) s2).put (some 59) s3).put (some 60) s4).put (some 16) s5 ∧ Nj4 (fun (w : World) (s : Value) => LawIs w s qs) (fun (w : World) (s : Value) => RatIs w s qf) (fun (w : World) (s : Value) => RatIs w s qp) (fun (w : World) (s : Value) => ∃ t : Tri, s = .tuple #[.int .i64 n1, t.val, ev] ∧ RatIs w t.val (q1)) Wx nc nl W s1 s2 s3 s4 s5) ?_ ?_ ?_ ?_ ?_ ?_ ?_ 5 0 false (by omega) (by rfl) _ _ ⟨undef, undef, undef, undef, undef, by subst ha0; rfl, Below.refl _ _, fun h => absurd h (by decide), fun h => absurd h (by decide), fun h => absurd h (by decide), fun h => absurd h (by decide), fun h => by cases h⟩
      · clear ha0
        intro nc nl hnc
        match nc, hnc with
        | 0, _ => cases nl <;> (show (_ : Bool) = _; kernel_rfl)
        | 1, _ => cases nl <;> (show (_ : Bool) = _; kernel_rfl)
        | 2, _ => cases nl <;> (show (_ : Bool) = _; kernel_rfl)
        | 3, _ => cases nl <;> (show (_ : Bool) = _; kernel_rfl)
      · clear ha0
        intro nc nl hnc
        match nc, hnc with
        | 0, _ => cases nl <;> (show (_ : Bool) = _; kernel_rfl)
        | 1, _ => cases nl <;> (show (_ : Bool) = _; kernel_rfl)
        | 2, _ => cases nl <;> (show (_ : Bool) = _; kernel_rfl)
        | 3, _ => cases nl <;> (show (_ : Bool) = _; kernel_rfl)
      · clear ha0
        intro nc nl hnc
        match nc, hnc with
        | 0, _ => rfl
        | 1, _ => rfl
        | 2, _ => rfl
        | 3, _ => rfl
      · clear ha0
        intro nc hnc
        match nc, hnc with
        | 0, _ => rfl
        | 1, _ => rfl
        | 2, _ => rfl
        | 3, _ => rfl
      · rintro nc nl na wv hnc ⟨s1, s2, s3, s4, s5, rfl, J⟩
        subst ha0
        match nc, hnc, J with
        | 0, _, J =>
          refine wpOp_step rfl (fun K hK => ?_)
          (try simp only [Act.put, List.setIfInBounds_toArray, List.set_cons_zero, List.set_cons_succ] at hK ⊢)
          (try simp only [List.getElem_toArray, List.getElem_cons_succ, List.getElem_cons_zero])
          go_simp
          refine (unhide HLW _ (below_step (unhide HBR10) (below_step bd0 J.bl))).mono ?_
          rintro e wz ⟨v_, rfl, hv, hb⟩
          exact hK _ _ ⟨unhide HC10 _ (below_step bd0 (below_step J.bl hb)), v_, s2, s3, s4, s5, rfl, below_step J.bl hb, fun _ => hv, fun h => absurd h (by decide), fun h => absurd h (by decide), fun h => absurd h (by decide), fun h => by
            obtain ⟨b, e1, e2, e3⟩ := J.al h
            exact ⟨b, e1, e2.keep hb, e3⟩⟩
        | 1, _, J =>
          refine wpOp_step rfl (fun K hK => ?_)
          (try simp only [Act.put, List.setIfInBounds_toArray, List.set_cons_zero, List.set_cons_succ] at hK ⊢)
          (try simp only [List.getElem_toArray, List.getElem_cons_succ, List.getElem_cons_zero])
          go_simp
          refine (unhide HFA _).mono ?_
          rintro e wz ⟨v_, rfl, hv, hb⟩
          exact hK _ _ ⟨unhide HC10 _ (below_step bd0 (below_step J.bl hb)), s1, v_, s3, s4, s5, rfl, below_step J.bl hb, fun _ => unhide KP1 _ _ _ (J.r1 (by decide)) hb, fun _ => hv, fun h => absurd h (by decide), fun h => absurd h (by decide), fun h => by
            obtain ⟨b, e1, e2, e3⟩ := J.al h
            exact ⟨b, e1, e2.keep hb, e3⟩⟩
        | 2, _, J =>
          refine wpOp_step rfl (fun K hK => ?_)
          (try simp only [Act.put, List.setIfInBounds_toArray, List.set_cons_zero, List.set_cons_succ] at hK ⊢)
          (try simp only [List.getElem_toArray, List.getElem_cons_succ, List.getElem_cons_zero])
          go_simp
          refine (unhide HFB _).mono ?_
          rintro e wz ⟨v_, rfl, hv, hb⟩
          exact hK _ _ ⟨unhide HC10 _ (below_step bd0 (below_step J.bl hb)), s1, s2, v_, s4, s5, rfl, below_step J.bl hb, fun _ => unhide KP1 _ _ _ (J.r1 (by decide)) hb, fun _ => unhide KP2 _ _ _ (J.r2 (by decide)) hb, fun _ => hv, fun h => absurd h (by decide), fun h => by
            obtain ⟨b, e1, e2, e3⟩ := J.al h
            exact ⟨b, e1, e2.keep hb, e3⟩⟩
        | 3, _, J =>
          refine wpOp_step rfl (fun K hK => ?_)
          (try simp only [Act.put, List.setIfInBounds_toArray, List.set_cons_zero, List.set_cons_succ] at hK ⊢)
          (try simp only [List.getElem_toArray, List.getElem_cons_succ, List.getElem_cons_zero])
          go_simp
          refine (unhide HAG _ _ _ _ (J.r1 (by decide)) (J.r2 (by decide)) (J.r3 (by decide))).mono ?_
          rintro e wz ⟨t_, rfl, hv, hb⟩
          exact hK _ _ ⟨unhide HC10 _ (below_step bd0 (below_step J.bl hb)), s1, s2, s3, .tuple #[.int .i64 n1, t_.val, ev], s5, rfl, below_step J.bl hb, fun _ => unhide KP1 _ _ _ (J.r1 (by decide)) hb, fun _ => unhide KP2 _ _ _ (J.r2 (by decide)) hb, fun _ => unhide KP3 _ _ _ (J.r3 (by decide)) hb, fun _ => ⟨t_, rfl, hv⟩, fun h => by
            obtain ⟨b, e1, e2, e3⟩ := J.al h
            exact ⟨b, e1, e2.keep hb, e3⟩⟩
      · rintro nc na wv hnc ⟨s1, s2, s3, s4, s5, rfl, J⟩
        subst ha0
        refine wpOp_step rfl (fun K hK => ?_)
        (try simp only [Act.put, List.setIfInBounds_toArray, List.set_cons_zero, List.set_cons_succ] at hK ⊢)
        (try simp only [List.getElem_toArray, List.getElem_cons_succ, List.getElem_cons_zero])
        go_simp
        have hb := alloc_below wv (.cells #[.bool false, .slice none 0 0, .slice none 0 0] 37)
        exact hK _ _ ⟨unhide HC10 _ (below_step bd0 (below_step J.bl hb)), s1, s2, s3, s4, .pointer (some ⟨wv.heap.size, 0, none⟩), rfl, below_step J.bl hb, fun h => unhide KP1 _ _ _ (J.r1 h) hb, fun h => unhide KP2 _ _ _ (J.r2 h) hb, fun h => unhide KP3 _ _ _ (J.r3 h) hb, fun h => unhide KP4 _ _ _ (J.r4 h) hb, fun _ => ⟨wv.heap.size, rfl, BoxIs.new (t := zTri) (rat_zero _), J.bl.size⟩⟩
      rintro nl na wv ⟨s1, s2, s3, s4, s5, rfl, J⟩
      subst ha0
      obtain ⟨t16, rfl, r0⟩ := J.r4 (by decide)
      simp only [Tri.val]
      (try simp only [Act.put, List.setIfInBounds_toArray, List.set_cons_zero, List.set_cons_succ])
      have hCv : (fun w' : World => (w'.cell? ⟨p5, 0, none⟩ = some (.int .i64 x) ∧ w'.cell? ⟨p5, 1, none⟩ = some (.int .i64 y)) ∧ w'.cell? ⟨p6, 0, none⟩ = some (.int .i64 z) ∧ w'.cell? ⟨p6, 1, none⟩ = some (.int .i64 u)) wv := unhide HC10 _ (below_step bd0 J.bl)
      clear hC0
      cases nl
      case' true =>
        obtain ⟨b16, rfl, B10, e10⟩ := J.al rfl
        refine wpHold_take (i := 7) (v := ?_) rfl (by kernel_rfl) (by kernel_rfl) (by kernel_rfl) (fun _ _ _ h => h) (Or.inl ⟨by rfl, ?_⟩) hCv ?_
        rotate_left
        · intro w hSw; clear hSw; go_simp; (try with_reducible rfl)
        (try simp only [List.getElem_toArray, List.getElem_cons_succ, List.getElem_cons_zero])
        (try simp only [Act.put, List.setIfInBounds_toArray, List.set_cons_zero, List.set_cons_succ])
        refine wpHold_take (i := 8) (v := ?_) rfl (by kernel_rfl) (by kernel_rfl) (by kernel_rfl) (fun _ _ _ h => h) (Or.inl ⟨by rfl, ?_⟩) hCv ?_
        rotate_left
        · intro w hSw; clear hSw; go_simp; (try with_reducible rfl)
        (try simp only [List.getElem_toArray, List.getElem_cons_succ, List.getElem_cons_zero])
        (try simp only [Act.put, List.setIfInBounds_toArray, List.set_cons_zero, List.set_cons_succ])
        refine wpHold_take (i := 9) (v := ?_) rfl (by kernel_rfl) (by kernel_rfl) (by kernel_rfl) (fun _ _ _ h => h) (Or.inl ⟨by rfl, ?_⟩) hCv ?_
        rotate_left
        · intro w hSw; clear hSw; go_simp; (try with_reducible rfl)
        (try simp only [List.getElem_toArray, List.getElem_cons_succ, List.getElem_cons_zero])
        (try simp only [Act.put, List.setIfInBounds_toArray, List.set_cons_zero, List.set_cons_succ])
        refine wpHold_take (i := 10) (v := ?_) rfl (by kernel_rfl) (by kernel_rfl) (by kernel_rfl) (fun _ _ _ h => h) (Or.inl ⟨by rfl, ?_⟩) hCv ?_
        rotate_left
        · intro w hSw; clear hSw; go_simp; (try with_reducible rfl)
        (try simp only [List.getElem_toArray, List.getElem_cons_succ, List.getElem_cons_zero])
        (try simp only [Act.put, List.setIfInBounds_toArray, List.set_cons_zero, List.set_cons_succ])
        have ⟨l0, l1, l2⟩ := B10.free
        have ⟨k0, k1, k2⟩ := B10.cells _ (Below.refl _ _)
        have HJB := hide (below_step bd0 J.bl)
        have NB := B10.set r0
        have e10' : w5.heap.size ≤ b16 := Nat.le_trans bd0.size e10
        have YB := (((below_step bd0 J.bl).setCell (p := ⟨b16, 0, none⟩) e10' (.bool t16.s)).setCell (p := ⟨b16, 1, none⟩) e10' (.slice t16.a1 t16.n1 t16.c1)).setCell (p := ⟨b16, 2, none⟩) e10' (.slice t16.a2 t16.n2 t16.c2)
        have HG_b16 := hide e10'
        have hCn : (fun w' : World => (w'.cell? ⟨p5, 0, none⟩ = some (.int .i64 x) ∧ w'.cell? ⟨p5, 1, none⟩ = some (.int .i64 y)) ∧ w'.cell? ⟨p6, 0, none⟩ = some (.int .i64 z) ∧ w'.cell? ⟨p6, 1, none⟩ = some (.int .i64 u)) _ := unhide HC10 _ YB
        obtain ⟨Wb16, hWy⟩ : ∃ W, ((wv.setCell ⟨b16, 0, none⟩ (.bool t16.s)).setCell ⟨b16, 1, none⟩ (.slice t16.a1 t16.n1 t16.c1)).setCell ⟨b16, 2, none⟩ (.slice t16.a2 t16.n2 t16.c2) = W := ⟨_, rfl⟩
        rw [hWy] at NB YB hCn
        have HX_b16 := hide NB
        have HY_b16 := hide YB
        clear J B10 YB NB e10' hCv
        refine wpHold_one (k := 12) (by kernel_rfl) rfl (fun K hK => ?_)
        (try simp only [List.getElem_toArray, List.getElem_cons_succ, List.getElem_cons_zero])
        go_simp
        refine hK.out _ _ (unhide HC10 _ (unhide HJB)) ?_
        clear hK K
        (try simp only [Act.put, List.setIfInBounds_toArray, List.set_cons_zero, List.set_cons_succ])
        refine wpHold_one (k := 13) (by kernel_rfl) rfl (fun K hK => ?_)
        (try simp only [List.getElem_toArray, List.getElem_cons_succ, List.getElem_cons_zero])
        go_simp
        refine hK.out _ _ hCn ?_
        clear hK K
        (try simp only [Act.put, List.setIfInBounds_toArray, List.set_cons_zero, List.set_cons_succ])
        refine wpHold_one (k := 14) (by kernel_rfl) rfl (fun K hK => ?_)
        (try simp only [List.getElem_toArray, List.getElem_cons_succ, List.getElem_cons_zero])
        go_simp
        refine hK.out _ _ hCn ?_
        clear hK K
        (try simp only [Act.put, List.setIfInBounds_toArray, List.set_cons_zero, List.set_cons_succ])
        refine wpHold_done (by kernel_rfl) ?_ _
        clear hCn l0 l1 l2 k0 k1 k2 hWy e10 bd0 hWx r0 HJB KP1 KP2 KP3 KP4
      case' false =>
        refine wpHold_take (i := 7) (v := ?_) rfl (by kernel_rfl) (by kernel_rfl) (by kernel_rfl) (fun _ _ _ h => h) (Or.inl ⟨by rfl, ?_⟩) hCv ?_
        rotate_left
        · intro w hSw; clear hSw; go_simp; (try with_reducible rfl)
        (try simp only [List.getElem_toArray, List.getElem_cons_succ, List.getElem_cons_zero])
        (try simp only [Act.put, List.setIfInBounds_toArray, List.set_cons_zero, List.set_cons_succ])
        refine wpHold_take (i := 8) (v := ?_) rfl (by kernel_rfl) (by kernel_rfl) (by kernel_rfl) (fun _ _ _ h => h) (Or.inl ⟨by rfl, ?_⟩) hCv ?_
        rotate_left
        · intro w hSw; clear hSw; go_simp; (try with_reducible rfl)
        (try simp only [List.getElem_toArray, List.getElem_cons_succ, List.getElem_cons_zero])
        (try simp only [Act.put, List.setIfInBounds_toArray, List.set_cons_zero, List.set_cons_succ])
        refine wpHold_take (i := 9) (v := ?_) rfl (by kernel_rfl) (by kernel_rfl) (by kernel_rfl) (fun _ _ _ h => h) (Or.inl ⟨by rfl, ?_⟩) hCv ?_
        rotate_left
        · intro w hSw; clear hSw; go_simp; (try with_reducible rfl)
        (try simp only [List.getElem_toArray, List.getElem_cons_succ, List.getElem_cons_zero])
        (try simp only [Act.put, List.setIfInBounds_toArray, List.set_cons_zero, List.set_cons_succ])
        refine wpHold_take (i := 10) (v := ?_) rfl (by kernel_rfl) (by kernel_rfl) (by kernel_rfl) (fun _ _ _ h => h) (Or.inl ⟨by rfl, ?_⟩) hCv ?_
        rotate_left
        · intro w hSw; clear hSw; go_simp; (try with_reducible rfl)
        (try simp only [List.getElem_toArray, List.getElem_cons_succ, List.getElem_cons_zero])
        (try simp only [Act.put, List.setIfInBounds_toArray, List.set_cons_zero, List.set_cons_succ])
        have hbA := alloc_below wv (.cells #[.bool false, .slice none 0 0, .slice none 0 0] 37)
        have B10 := BoxIs.new (w := wv) (t := zTri) (q := 0) (rat_zero _)
        have B10' : BoxIs (wv.alloc (.cells #[.bool false, .slice none 0 0, .slice none 0 0] 37)) wv.heap.size zTri 0 := B10
        have rA := r0.below hbA
        have blA := below_step J.bl hbA
        have hCA : (fun w' : World => (w'.cell? ⟨p5, 0, none⟩ = some (.int .i64 x) ∧ w'.cell? ⟨p5, 1, none⟩ = some (.int .i64 y)) ∧ w'.cell? ⟨p6, 0, none⟩ = some (.int .i64 z) ∧ w'.cell? ⟨p6, 1, none⟩ = some (.int .i64 u)) _ := unhide HC10 _ (below_step bd0 blA)
        have e10 : Wx.heap.size ≤ wv.heap.size := J.bl.size
        refine wpHold_one (k := 11) (by kernel_rfl) rfl (fun K hK => ?_)
        (try simp only [List.getElem_toArray, List.getElem_cons_succ, List.getElem_cons_zero])
        go_simp
        refine hK.out _ _ hCA ?_
        clear hK K
        (try simp only [Act.put, List.setIfInBounds_toArray, List.set_cons_zero, List.set_cons_succ])
        obtain ⟨wA, hwA⟩ : ∃ W, wv.alloc (.cells #[.bool false, .slice none 0 0, .slice none 0 0] 37) = W := ⟨_, rfl⟩
        obtain ⟨b16, hbn⟩ : ∃ b, wv.heap.size = b := ⟨_, rfl⟩
        rw [hwA] at B10' rA blA hCA
        rw [hbn] at B10' e10
        simp only [hwA, hbn]
        clear B10 hbA hwA hbn
        replace B10 := B10'
        clear B10'
        have ⟨l0, l1, l2⟩ := B10.free
        have ⟨k0, k1, k2⟩ := B10.cells _ (Below.refl _ _)
        have HJB := hide (below_step bd0 blA)
        have NB := B10.set rA
        have e10' : w5.heap.size ≤ b16 := Nat.le_trans bd0.size e10
        have YB := (((below_step bd0 blA).setCell (p := ⟨b16, 0, none⟩) e10' (.bool t16.s)).setCell (p := ⟨b16, 1, none⟩) e10' (.slice t16.a1 t16.n1 t16.c1)).setCell (p := ⟨b16, 2, none⟩) e10' (.slice t16.a2 t16.n2 t16.c2)
        have HG_b16 := hide e10'
        have hCn : (fun w' : World => (w'.cell? ⟨p5, 0, none⟩ = some (.int .i64 x) ∧ w'.cell? ⟨p5, 1, none⟩ = some (.int .i64 y)) ∧ w'.cell? ⟨p6, 0, none⟩ = some (.int .i64 z) ∧ w'.cell? ⟨p6, 1, none⟩ = some (.int .i64 u)) _ := unhide HC10 _ YB
        obtain ⟨Wb16, hWy⟩ : ∃ W, ((wA.setCell ⟨b16, 0, none⟩ (.bool t16.s)).setCell ⟨b16, 1, none⟩ (.slice t16.a1 t16.n1 t16.c1)).setCell ⟨b16, 2, none⟩ (.slice t16.a2 t16.n2 t16.c2) = W := ⟨_, rfl⟩
        rw [hWy] at NB YB hCn
        have HX_b16 := hide NB
        have HY_b16 := hide YB
        clear J B10 YB NB e10' hCv
        refine wpHold_one (k := 12) (by kernel_rfl) rfl (fun K hK => ?_)
        (try simp only [List.getElem_toArray, List.getElem_cons_succ, List.getElem_cons_zero])
        go_simp
        refine hK.out _ _ (unhide HC10 _ (unhide HJB)) ?_
        clear hK K
        (try simp only [Act.put, List.setIfInBounds_toArray, List.set_cons_zero, List.set_cons_succ])
        refine wpHold_one (k := 13) (by kernel_rfl) rfl (fun K hK => ?_)
        (try simp only [List.getElem_toArray, List.getElem_cons_succ, List.getElem_cons_zero])
        go_simp
        refine hK.out _ _ hCn ?_
        clear hK K
        (try simp only [Act.put, List.setIfInBounds_toArray, List.set_cons_zero, List.set_cons_succ])
        refine wpHold_one (k := 14) (by kernel_rfl) rfl (fun K hK => ?_)
        (try simp only [List.getElem_toArray, List.getElem_cons_succ, List.getElem_cons_zero])
        go_simp
        refine hK.out _ _ hCn ?_
        clear hK K
        (try simp only [Act.put, List.setIfInBounds_toArray, List.set_cons_zero, List.set_cons_succ])
        refine wpHold_done (by kernel_rfl) ?_ _
        clear hCn l0 l1 l2 k0 k1 k2 hWy e10 bd0 hWx r0 HJB KP1 KP2 KP3 KP4 hCA rA blA
      all_goals
        have hb0 := unhide HY_b16
        have HX16 := hide (fun W (hW : Below Wb16.heap.size Wb16 W) => (unhide HX_b16).keep hW)
        have HBw := hide (fun W (hW : Below Wb16.heap.size Wb16 W) => below_step hb0 hW)
        have HB16 := hide (below_step (unhide HBR10) hb0)
        have HWH := hide (unhide HWH0 Wb16 (unhide HB16))
        clear hb0 HX_b16 HY_b16 HG_b16 HWH0
        go_wp2_with fail
        refine (unhide HWH).mono ?_
        rintro e w6 ⟨rfl, hb6⟩
        have X6 := unhide HX16 w6 hb6
        have ⟨c0, c1, c2⟩ := X6.cells _ (Below.refl _ _)
        have HB6 := hide (below_step (unhide HB16) hb6)
        have HB63 := hide (below_step (unhide HB5) (unhide HBw w6 hb6))
        have HO6 := hide (unhide HON1 w6 t16 (unhide HBw w6 hb6) X6.2)
        simp only [Tri.val] at HO6
        clear X6 hb6 HWH HX16 HB16 HBw HON1
        go_wp2_with fail
        clear c0 c1 c2
        refine (unhide HO6).mono ?_
        rintro e w7 ⟨rfl, hb7⟩
        have HB7 := hide (below_step (unhide HB6) hb7)
        have HB73 := hide (below_step (unhide HB63) hb7)
        have HI8 := hide (refIntz_any 0 (by decide) (by decide) w7)
        clear hb7 HB6 HO6
        go_wp2_with fail
        refine (unhide HI8).mono ?_
        rintro e wi8 ⟨b17, rfl, -, zi8, hbi8⟩
        have HBi8 := hide (below_step (unhide HB7) hbi8)
        have HBi83 := hide (below_step (unhide HB73) hbi8)
        clear zi8 hbi8 HI8 HB7
      all_goals first
        | have HL8 := unhide HRC0 wi8 v1 b_f b_p (unhide HL3 wi8 (unhide HBi83)) (unhide HZF wi8 (unhide HBi83)) (unhide HZP wi8 (unhide HBi83))
          have HC22 := hide HL8
          clear HL8
          go_wp2_with fail
          refine (unhide HC22).mono ?_
          rintro e w8 ⟨b18, rfl, -, z18, hb8⟩
          have HB8 := hide (below_step (unhide HBi8) hb8)
          have HON18 : Hid (∀ W (t : Tri), Below w8.heap.size w8 W → RatIs W t.val q2 → Calls Tryz.prog 16 #[t.val, ev2, .pointer (some ⟨b18, 0, none⟩), .int .i64 0] W fun e w' => e = .returned (.bool true) ∧ Below W.heap.size W w') := fun W t hW hr => unhide HONK W t b18 (below_step (unhide HB8) hW) hr (z18.below hW)
          clear z18 hb8 HC22 HBi8 HRC0 HONK
        | have HON17 := hide (fun W (t : Tri) (hW : Below wi8.heap.size wi8 W) => unhide HONE W t b17 (below_step (unhide HBi8) hW))
          obtain ⟨w8, hw8⟩ : ∃ W, W = wi8 := ⟨_, rfl⟩
          subst hw8
          obtain ⟨b18, hb18⟩ : ∃ b, b = b17 := ⟨_, rfl⟩
          subst hb18
          have HB8 := hide (unhide HBi8)
          have HON18 := hide (unhide HON17)
          clear HON17 HBi8 HONE
      all_goals
        have HC18 : Hid (∀ W, Below w8.heap.size w8 W → (fun w' : World => (w'.cell? ⟨p5, 0, none⟩ = some (.int .i64 x) ∧ w'.cell? ⟨p5, 1, none⟩ = some (.int .i64 y)) ∧ w'.cell? ⟨p6, 0, none⟩ = some (.int .i64 z) ∧ w'.cell? ⟨p6, 1, none⟩ = some (.int .i64 u)) W) := fun W hW => unhide HCC W (below_step (unhide HB8) hW)
        have HBR18 := hide (unhide HB8)
        go_wp2_with fail
        refine wp_region_hold (fun w' : World => (w'.cell? ⟨p5, 0, none⟩ = some (.int .i64 x) ∧ w'.cell? ⟨p5, 1, none⟩ = some (.int .i64 y)) ∧ w'.cell? ⟨p6, 0, none⟩ = some (.int .i64 z) ∧ w'.cell? ⟨p6, 1, none⟩ = some (.int .i64 u)) (by kernel_rfl) ?_
        have bd0 : Below w8.heap.size w8 w8.drew := (Below.refl _ _).drew
        obtain ⟨Wx, hWx⟩ : ∃ W, w8.drew = W := ⟨_, rfl⟩
        rw [hWx] at bd0 ⊢
        have hC0 : (fun w' : World => (w'.cell? ⟨p5, 0, none⟩ = some (.int .i64 x) ∧ w'.cell? ⟨p5, 1, none⟩ = some (.int .i64 y)) ∧ w'.cell? ⟨p6, 0, none⟩ = some (.int .i64 z) ∧ w'.cell? ⟨p6, 1, none⟩ = some (.int .i64 u)) Wx := unhide HC18 _ bd0
        have KP1 : Hid (∀ (w w' : World) (s : Value), (fun (w : World) (s : Value) => LawIs w s qs) w s → Below w.heap.size w w' → (fun (w : World) (s : Value) => LawIs w s qs) w' s) := fun _ _ _ h hb => LawIs.below h hb
        have KP2 : Hid (∀ (w w' : World) (s : Value), (fun (w : World) (s : Value) => RatIs w s qf) w s → Below w.heap.size w w' → (fun (w : World) (s : Value) => RatIs w s qf) w' s) := fun _ _ _ h hb => RatIs.below h hb
        have KP3 : Hid (∀ (w w' : World) (s : Value), (fun (w : World) (s : Value) => RatIs w s qp) w s → Below w.heap.size w w' → (fun (w : World) (s : Value) => RatIs w s qp) w' s) := fun _ _ _ h hb => RatIs.below h hb
        have KP4 : Hid (∀ (w w' : World) (s : Value), (fun (w : World) (s : Value) => ∃ t : Tri, s = .tuple #[t.val, ev2] ∧ RatIs w t.val (q2)) w s → Below w.heap.size w w' → (fun (w : World) (s : Value) => ∃ t : Tri, s = .tuple #[t.val, ev2] ∧ RatIs w t.val (q2)) w' s) := fun _ _ _ h hb => by obtain ⟨t, h1, h2⟩ := h; exact ⟨t, h1, h2.below hb⟩
        refine wpHold_take (i := 0) (v := ?_) rfl (by kernel_rfl) (by kernel_rfl) (by kernel_rfl) (fun _ _ _ h => h) (Or.inl ⟨by rfl, ?_⟩) hC0 ?_
        rotate_left
        · intro w hSw; clear hSw; go_simp; (try with_reducible rfl)
        (try simp only [List.getElem_toArray, List.getElem_cons_succ, List.getElem_cons_zero])
        (try simp only [Act.put, List.setIfInBounds_toArray, List.set_cons_zero, List.set_cons_succ])
        refine wpHold_take (i := 2) (v := ?_) rfl (by kernel_rfl) (by kernel_rfl) (by kernel_rfl) (fun _ _ _ h => h) (Or.inl ⟨by rfl, ?_⟩) hC0 ?_
        rotate_left
        · intro w hSw; (try dsimp only at hSw); obtain ⟨⟨z0, z1⟩, z2, z3⟩ := hSw; go_simp; (try with_reducible rfl)
        (try simp only [List.getElem_toArray, List.getElem_cons_succ, List.getElem_cons_zero])
        (try simp only [Act.put, List.setIfInBounds_toArray, List.set_cons_zero, List.set_cons_succ])
        refine wpHold_take (i := 4) (v := ?_) rfl (by kernel_rfl) (by kernel_rfl) (by kernel_rfl) (fun _ _ _ h => h) (Or.inl ⟨by rfl, ?_⟩) hC0 ?_
        rotate_left
        · intro w hSw; (try dsimp only at hSw); obtain ⟨⟨z0, z1⟩, z2, z3⟩ := hSw; go_simp; (try with_reducible rfl)
        (try simp only [List.getElem_toArray, List.getElem_cons_succ, List.getElem_cons_zero])
        (try simp only [Act.put, List.setIfInBounds_toArray, List.set_cons_zero, List.set_cons_succ])
        refine wpHold_take (i := 6) (v := ?_) rfl (by kernel_rfl) (by kernel_rfl) (by kernel_rfl) (fun _ _ _ h => h) (Or.inl ⟨by rfl, ?_⟩) hC0 ?_
        rotate_left
        · intro w hSw; clear hSw; go_simp; (try with_reducible rfl)
        (try simp only [List.getElem_toArray, List.getElem_cons_succ, List.getElem_cons_zero])
        (try simp only [Act.put, List.setIfInBounds_toArray, List.set_cons_zero, List.set_cons_succ])
        refine wpHold_listed (n := 10) (L' := (fun nc nl => #[true, decide (1 ≤ nc), true, decide (2 ≤ nc), true, decide (3 ≤ nc), true, decide (4 ≤ nc), false, false, false, nl, false, false]) 0 false) (by kernel_rfl) (by kernel_rfl) ?_
        refine wpHold_name (fun a0 ha0 => ?_)
        refine chain_fin 4 (fun nc nl => #[true, decide (1 ≤ nc), true, decide (2 ≤ nc), true, decide (3 ≤ nc), true, decide (4 ≤ nc), false, false, false, nl, false, false]) (fun nc => match nc with | 0 => 1 | 1 => 3 | 2 => 5 | _ => 7) 11 5 (fun nc nl na W => ∃ s1 s2 s3 s4 s5, na = ((((a0.put (some 98) s1).put (some 100) s2).put (some 102) s3).put (some 104) s4).put (some 19) s5 ∧ Nj4 (fun (w : World) (s : Value) => LawIs w s qs) (fun (w : World) (s : Value) => RatIs w s qf) (fun (w : World) (s : Value) => RatIs w s qp) (fun (w : World) (s : Value) => ∃ t : Tri, s = .tuple #[t.val, ev2] ∧ RatIs w t.val (q2)) Wx nc nl W s1 s2 s3 s4 s5) ?_ ?_ ?_ ?_ ?_ ?_ ?_ 5 0 false (by omega) (by rfl) _ _ ⟨undef, undef, undef, undef, undef, by subst ha0; rfl, Below.refl _ _, fun h => absurd h (by decide), fun h => absurd h (by decide), fun h => absurd h (by decide), fun h => absurd h (by decide), fun h => by cases h⟩
        · clear ha0
          intro nc nl hnc
          match nc, hnc with
          | 0, _ => cases nl <;> (show (_ : Bool) = _; kernel_rfl)
          | 1, _ => cases nl <;> (show (_ : Bool) = _; kernel_rfl)
          | 2, _ => cases nl <;> (show (_ : Bool) = _; kernel_rfl)
          | 3, _ => cases nl <;> (show (_ : Bool) = _; kernel_rfl)
        · clear ha0
          intro nc nl hnc
          match nc, hnc with
          | 0, _ => cases nl <;> (show (_ : Bool) = _; kernel_rfl)
          | 1, _ => cases nl <;> (show (_ : Bool) = _; kernel_rfl)
          | 2, _ => cases nl <;> (show (_ : Bool) = _; kernel_rfl)
          | 3, _ => cases nl <;> (show (_ : Bool) = _; kernel_rfl)
        · clear ha0
          intro nc nl hnc
          match nc, hnc with
          | 0, _ => rfl
          | 1, _ => rfl
          | 2, _ => rfl
          | 3, _ => rfl
        · clear ha0
          intro nc hnc
          match nc, hnc with
          | 0, _ => rfl
          | 1, _ => rfl
          | 2, _ => rfl
          | 3, _ => rfl
        · rintro nc nl na wv hnc ⟨s1, s2, s3, s4, s5, rfl, J⟩
          subst ha0
          match nc, hnc, J with
          | 0, _, J =>
            refine wpOp_step rfl (fun K hK => ?_)
            (try simp only [Act.put, List.setIfInBounds_toArray, List.set_cons_zero, List.set_cons_succ] at hK ⊢)
            (try simp only [List.getElem_toArray, List.getElem_cons_succ, List.getElem_cons_zero])
            go_simp
            refine (unhide HLW _ (below_step (unhide HBR18) (below_step bd0 J.bl))).mono ?_
            rintro e wz ⟨v_, rfl, hv, hb⟩
            exact hK _ _ ⟨unhide HC18 _ (below_step bd0 (below_step J.bl hb)), v_, s2, s3, s4, s5, rfl, below_step J.bl hb, fun _ => hv, fun h => absurd h (by decide), fun h => absurd h (by decide), fun h => absurd h (by decide), fun h => by
              obtain ⟨b, e1, e2, e3⟩ := J.al h
              exact ⟨b, e1, e2.keep hb, e3⟩⟩
          | 1, _, J =>
            refine wpOp_step rfl (fun K hK => ?_)
            (try simp only [Act.put, List.setIfInBounds_toArray, List.set_cons_zero, List.set_cons_succ] at hK ⊢)
            (try simp only [List.getElem_toArray, List.getElem_cons_succ, List.getElem_cons_zero])
            go_simp
            refine (unhide HFA _).mono ?_
            rintro e wz ⟨v_, rfl, hv, hb⟩
            exact hK _ _ ⟨unhide HC18 _ (below_step bd0 (below_step J.bl hb)), s1, v_, s3, s4, s5, rfl, below_step J.bl hb, fun _ => unhide KP1 _ _ _ (J.r1 (by decide)) hb, fun _ => hv, fun h => absurd h (by decide), fun h => absurd h (by decide), fun h => by
              obtain ⟨b, e1, e2, e3⟩ := J.al h
              exact ⟨b, e1, e2.keep hb, e3⟩⟩
          | 2, _, J =>
            refine wpOp_step rfl (fun K hK => ?_)
            (try simp only [Act.put, List.setIfInBounds_toArray, List.set_cons_zero, List.set_cons_succ] at hK ⊢)
            (try simp only [List.getElem_toArray, List.getElem_cons_succ, List.getElem_cons_zero])
            go_simp
            refine (unhide HFB _).mono ?_
            rintro e wz ⟨v_, rfl, hv, hb⟩
            exact hK _ _ ⟨unhide HC18 _ (below_step bd0 (below_step J.bl hb)), s1, s2, v_, s4, s5, rfl, below_step J.bl hb, fun _ => unhide KP1 _ _ _ (J.r1 (by decide)) hb, fun _ => unhide KP2 _ _ _ (J.r2 (by decide)) hb, fun _ => hv, fun h => absurd h (by decide), fun h => by
              obtain ⟨b, e1, e2, e3⟩ := J.al h
              exact ⟨b, e1, e2.keep hb, e3⟩⟩
          | 3, _, J =>
            refine wpOp_step rfl (fun K hK => ?_)
            (try simp only [Act.put, List.setIfInBounds_toArray, List.set_cons_zero, List.set_cons_succ] at hK ⊢)
            (try simp only [List.getElem_toArray, List.getElem_cons_succ, List.getElem_cons_zero])
            go_simp
            refine (unhide HCG _ _ _ _ (J.r1 (by decide)) (J.r2 (by decide)) (J.r3 (by decide))).mono ?_
            rintro e wz ⟨t_, rfl, hv, hb⟩
            exact hK _ _ ⟨unhide HC18 _ (below_step bd0 (below_step J.bl hb)), s1, s2, s3, .tuple #[t_.val, ev2], s5, rfl, below_step J.bl hb, fun _ => unhide KP1 _ _ _ (J.r1 (by decide)) hb, fun _ => unhide KP2 _ _ _ (J.r2 (by decide)) hb, fun _ => unhide KP3 _ _ _ (J.r3 (by decide)) hb, fun _ => ⟨t_, rfl, hv⟩, fun h => by
              obtain ⟨b, e1, e2, e3⟩ := J.al h
              exact ⟨b, e1, e2.keep hb, e3⟩⟩
        · rintro nc na wv hnc ⟨s1, s2, s3, s4, s5, rfl, J⟩
          subst ha0
          refine wpOp_step rfl (fun K hK => ?_)
          (try simp only [Act.put, List.setIfInBounds_toArray, List.set_cons_zero, List.set_cons_succ] at hK ⊢)
          (try simp only [List.getElem_toArray, List.getElem_cons_succ, List.getElem_cons_zero])
          go_simp
          have hb := alloc_below wv (.cells #[.bool false, .slice none 0 0, .slice none 0 0] 37)
          exact hK _ _ ⟨unhide HC18 _ (below_step bd0 (below_step J.bl hb)), s1, s2, s3, s4, .pointer (some ⟨wv.heap.size, 0, none⟩), rfl, below_step J.bl hb, fun h => unhide KP1 _ _ _ (J.r1 h) hb, fun h => unhide KP2 _ _ _ (J.r2 h) hb, fun h => unhide KP3 _ _ _ (J.r3 h) hb, fun h => unhide KP4 _ _ _ (J.r4 h) hb, fun _ => ⟨wv.heap.size, rfl, BoxIs.new (t := zTri) (rat_zero _), J.bl.size⟩⟩
        rintro nl na wv ⟨s1, s2, s3, s4, s5, rfl, J⟩
        subst ha0
        obtain ⟨t19, rfl, r0⟩ := J.r4 (by decide)
        simp only [Tri.val]
        (try simp only [Act.put, List.setIfInBounds_toArray, List.set_cons_zero, List.set_cons_succ])
        have hCv : (fun w' : World => (w'.cell? ⟨p5, 0, none⟩ = some (.int .i64 x) ∧ w'.cell? ⟨p5, 1, none⟩ = some (.int .i64 y)) ∧ w'.cell? ⟨p6, 0, none⟩ = some (.int .i64 z) ∧ w'.cell? ⟨p6, 1, none⟩ = some (.int .i64 u)) wv := unhide HC18 _ (below_step bd0 J.bl)
        clear hC0
        cases nl
        case' true =>
          obtain ⟨b19, rfl, B10, e10⟩ := J.al rfl
          refine wpHold_take (i := 8) (v := ?_) rfl (by kernel_rfl) (by kernel_rfl) (by kernel_rfl) (fun _ _ _ h => h) (Or.inl ⟨by rfl, ?_⟩) hCv ?_
          rotate_left
          · intro w hSw; clear hSw; go_simp; (try with_reducible rfl)
          (try simp only [List.getElem_toArray, List.getElem_cons_succ, List.getElem_cons_zero])
          (try simp only [Act.put, List.setIfInBounds_toArray, List.set_cons_zero, List.set_cons_succ])
          refine wpHold_take (i := 9) (v := ?_) rfl (by kernel_rfl) (by kernel_rfl) (by kernel_rfl) (fun _ _ _ h => h) (Or.inl ⟨by rfl, ?_⟩) hCv ?_
          rotate_left
          · intro w hSw; clear hSw; go_simp; (try with_reducible rfl)
          (try simp only [List.getElem_toArray, List.getElem_cons_succ, List.getElem_cons_zero])
          (try simp only [Act.put, List.setIfInBounds_toArray, List.set_cons_zero, List.set_cons_succ])
          refine wpHold_take (i := 10) (v := ?_) rfl (by kernel_rfl) (by kernel_rfl) (by kernel_rfl) (fun _ _ _ h => h) (Or.inl ⟨by rfl, ?_⟩) hCv ?_
          rotate_left
          · intro w hSw; clear hSw; go_simp; (try with_reducible rfl)
          (try simp only [List.getElem_toArray, List.getElem_cons_succ, List.getElem_cons_zero])
          (try simp only [Act.put, List.setIfInBounds_toArray, List.set_cons_zero, List.set_cons_succ])
          have ⟨l0, l1, l2⟩ := B10.free
          have ⟨k0, k1, k2⟩ := B10.cells _ (Below.refl _ _)
          have HJB := hide (below_step bd0 J.bl)
          have NB := B10.set r0
          have e10' : w8.heap.size ≤ b19 := Nat.le_trans bd0.size e10
          have YB := (((below_step bd0 J.bl).setCell (p := ⟨b19, 0, none⟩) e10' (.bool t19.s)).setCell (p := ⟨b19, 1, none⟩) e10' (.slice t19.a1 t19.n1 t19.c1)).setCell (p := ⟨b19, 2, none⟩) e10' (.slice t19.a2 t19.n2 t19.c2)
          have HG_b19 := hide e10'
          have hCn : (fun w' : World => (w'.cell? ⟨p5, 0, none⟩ = some (.int .i64 x) ∧ w'.cell? ⟨p5, 1, none⟩ = some (.int .i64 y)) ∧ w'.cell? ⟨p6, 0, none⟩ = some (.int .i64 z) ∧ w'.cell? ⟨p6, 1, none⟩ = some (.int .i64 u)) _ := unhide HC18 _ YB
          obtain ⟨Wb19, hWy⟩ : ∃ W, ((wv.setCell ⟨b19, 0, none⟩ (.bool t19.s)).setCell ⟨b19, 1, none⟩ (.slice t19.a1 t19.n1 t19.c1)).setCell ⟨b19, 2, none⟩ (.slice t19.a2 t19.n2 t19.c2) = W := ⟨_, rfl⟩
          rw [hWy] at NB YB hCn
          have HX_b19 := hide NB
          have HY_b19 := hide YB
          clear J B10 YB NB e10' hCv
          refine wpHold_one (k := 12) (by kernel_rfl) rfl (fun K hK => ?_)
          (try simp only [List.getElem_toArray, List.getElem_cons_succ, List.getElem_cons_zero])
          go_simp
          refine hK.out _ _ hCn ?_
          clear hK K
          (try simp only [Act.put, List.setIfInBounds_toArray, List.set_cons_zero, List.set_cons_succ])
          refine wpHold_one (k := 13) (by kernel_rfl) rfl (fun K hK => ?_)
          (try simp only [List.getElem_toArray, List.getElem_cons_succ, List.getElem_cons_zero])
          go_simp
          refine hK.out _ _ hCn ?_
          clear hK K
          (try simp only [Act.put, List.setIfInBounds_toArray, List.set_cons_zero, List.set_cons_succ])
          refine wpHold_done (by kernel_rfl) ?_ _
          clear hCn l0 l1 l2 k0 k1 k2 hWy e10 bd0 hWx r0 HJB KP1 KP2 KP3 KP4
        case' false =>
          refine wpHold_take (i := 8) (v := ?_) rfl (by kernel_rfl) (by kernel_rfl) (by kernel_rfl) (fun _ _ _ h => h) (Or.inl ⟨by rfl, ?_⟩) hCv ?_
          rotate_left
          · intro w hSw; clear hSw; go_simp; (try with_reducible rfl)
          (try simp only [List.getElem_toArray, List.getElem_cons_succ, List.getElem_cons_zero])
          (try simp only [Act.put, List.setIfInBounds_toArray, List.set_cons_zero, List.set_cons_succ])
          refine wpHold_take (i := 9) (v := ?_) rfl (by kernel_rfl) (by kernel_rfl) (by kernel_rfl) (fun _ _ _ h => h) (Or.inl ⟨by rfl, ?_⟩) hCv ?_
          rotate_left
          · intro w hSw; clear hSw; go_simp; (try with_reducible rfl)
          (try simp only [List.getElem_toArray, List.getElem_cons_succ, List.getElem_cons_zero])
          (try simp only [Act.put, List.setIfInBounds_toArray, List.set_cons_zero, List.set_cons_succ])
          refine wpHold_take (i := 10) (v := ?_) rfl (by kernel_rfl) (by kernel_rfl) (by kernel_rfl) (fun _ _ _ h => h) (Or.inl ⟨by rfl, ?_⟩) hCv ?_
          rotate_left
          · intro w hSw; clear hSw; go_simp; (try with_reducible rfl)
          (try simp only [List.getElem_toArray, List.getElem_cons_succ, List.getElem_cons_zero])
          (try simp only [Act.put, List.setIfInBounds_toArray, List.set_cons_zero, List.set_cons_succ])
          have hbA := alloc_below wv (.cells #[.bool false, .slice none 0 0, .slice none 0 0] 37)
          have B10 := BoxIs.new (w := wv) (t := zTri) (q := 0) (rat_zero _)
          have B10' : BoxIs (wv.alloc (.cells #[.bool false, .slice none 0 0, .slice none 0 0] 37)) wv.heap.size zTri 0 := B10
          have rA := r0.below hbA
          have blA := below_step J.bl hbA
          have hCA : (fun w' : World => (w'.cell? ⟨p5, 0, none⟩ = some (.int .i64 x) ∧ w'.cell? ⟨p5, 1, none⟩ = some (.int .i64 y)) ∧ w'.cell? ⟨p6, 0, none⟩ = some (.int .i64 z) ∧ w'.cell? ⟨p6, 1, none⟩ = some (.int .i64 u)) _ := unhide HC18 _ (below_step bd0 blA)
          have e10 : Wx.heap.size ≤ wv.heap.size := J.bl.size
          refine wpHold_one (k := 11) (by kernel_rfl) rfl (fun K hK => ?_)
          (try simp only [List.getElem_toArray, List.getElem_cons_succ, List.getElem_cons_zero])
          go_simp
          refine hK.out _ _ hCA ?_
          clear hK K
          (try simp only [Act.put, List.setIfInBounds_toArray, List.set_cons_zero, List.set_cons_succ])
          obtain ⟨wA, hwA⟩ : ∃ W, wv.alloc (.cells #[.bool false, .slice none 0 0, .slice none 0 0] 37) = W := ⟨_, rfl⟩
          obtain ⟨b19, hbn⟩ : ∃ b, wv.heap.size = b := ⟨_, rfl⟩
          rw [hwA] at B10' rA blA hCA
          rw [hbn] at B10' e10
          simp only [hwA, hbn]
          clear B10 hbA hwA hbn
          replace B10 := B10'
          clear B10'
          have ⟨l0, l1, l2⟩ := B10.free
          have ⟨k0, k1, k2⟩ := B10.cells _ (Below.refl _ _)
          have HJB := hide (below_step bd0 blA)
          have NB := B10.set rA
          have e10' : w8.heap.size ≤ b19 := Nat.le_trans bd0.size e10
          have YB := (((below_step bd0 blA).setCell (p := ⟨b19, 0, none⟩) e10' (.bool t19.s)).setCell (p := ⟨b19, 1, none⟩) e10' (.slice t19.a1 t19.n1 t19.c1)).setCell (p := ⟨b19, 2, none⟩) e10' (.slice t19.a2 t19.n2 t19.c2)
          have HG_b19 := hide e10'
          have hCn : (fun w' : World => (w'.cell? ⟨p5, 0, none⟩ = some (.int .i64 x) ∧ w'.cell? ⟨p5, 1, none⟩ = some (.int .i64 y)) ∧ w'.cell? ⟨p6, 0, none⟩ = some (.int .i64 z) ∧ w'.cell? ⟨p6, 1, none⟩ = some (.int .i64 u)) _ := unhide HC18 _ YB
          obtain ⟨Wb19, hWy⟩ : ∃ W, ((wA.setCell ⟨b19, 0, none⟩ (.bool t19.s)).setCell ⟨b19, 1, none⟩ (.slice t19.a1 t19.n1 t19.c1)).setCell ⟨b19, 2, none⟩ (.slice t19.a2 t19.n2 t19.c2) = W := ⟨_, rfl⟩
          rw [hWy] at NB YB hCn
          have HX_b19 := hide NB
          have HY_b19 := hide YB
          clear J B10 YB NB e10' hCv
          refine wpHold_one (k := 12) (by kernel_rfl) rfl (fun K hK => ?_)
          (try simp only [List.getElem_toArray, List.getElem_cons_succ, List.getElem_cons_zero])
          go_simp
          refine hK.out _ _ hCn ?_
          clear hK K
          (try simp only [Act.put, List.setIfInBounds_toArray, List.set_cons_zero, List.set_cons_succ])
          refine wpHold_one (k := 13) (by kernel_rfl) rfl (fun K hK => ?_)
          (try simp only [List.getElem_toArray, List.getElem_cons_succ, List.getElem_cons_zero])
          go_simp
          refine hK.out _ _ hCn ?_
          clear hK K
          (try simp only [Act.put, List.setIfInBounds_toArray, List.set_cons_zero, List.set_cons_succ])
          refine wpHold_done (by kernel_rfl) ?_ _
          clear hCn l0 l1 l2 k0 k1 k2 hWy e10 bd0 hWx r0 HJB KP1 KP2 KP3 KP4 hCA rA blA
        all_goals
          have hb0 := unhide HY_b19
          have X19 := unhide HX_b19
          have HBL := hide (below_step (unhide HBR18) hb0)
          have ⟨c0, c1, c2⟩ := X19.cells _ (Below.refl _ _)
          have HO9 := hide (unhide HON18 _ t19 hb0 X19.2)
          simp only [Tri.val] at HO9
          clear hb0 X19 HX_b19 HY_b19 HG_b19 HON18
          go_wp2_with fail
          clear c0 c1 c2
          refine (unhide HO9).mono ?_
          rintro e w9 ⟨rfl, hb9⟩
          have HB9 := hide (below_step (unhide HBB) (below_step (unhide HBL) hb9))
          clear hb9 HBL HO9
          go_wp2
          go_ret
          exact ⟨rfl, unhide HB9⟩
end Go.Proofs.YtcelbgleajpenaaGreatDoor
