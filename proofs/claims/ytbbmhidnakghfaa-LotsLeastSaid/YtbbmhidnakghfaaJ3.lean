/- Merging two neighbours: where one of them is a single one. -/
import Derived.Test.YtbbmhidnakghfaaJ2
namespace Go.Proofs.Ytbbmhidnakghfaa
open Go.RowKit Go.Sort Stb

theorem half_i {s x : Nat} (hs : s ≤ 200000) (h : s / 2 = x) : IntKind.u64.wrap (s : Int) = (s : Int) ∧ wrap64 ((s : Int) / 2) = (x : Int) := by
  refine ⟨by rw [IntKind.wrap_u64]; omega, ?_⟩
  unfold wrap64
  omega

theorem half_all {i j n : Nat} (h : i < j) (hj : j ≤ n) (hn : n ≤ 100000) : ∃ s x : Nat, IntKind.i64.wrap ((i : Int) + (j : Int)) = (s : Int) ∧ IntKind.u64.wrap (s : Int) = (s : Int) ∧ wrap64 ((s : Int) / 2) = (x : Int) ∧ i ≤ x ∧ x < j ∧ IntKind.i64.wrap ((x : Int) + 1) = (x : Int) + 1 := by
  have hx : i ≤ (i + j) / 2 ∧ (i + j) / 2 < j := by omega
  have h2 := half_i (s := i + j) (x := (i + j) / 2) (by omega) rfl
  obtain ⟨x, e⟩ : ∃ x, (i + j) / 2 = x := ⟨_, rfl⟩
  rw [e] at hx h2
  clear e
  refine ⟨i + j, x, by rw [IntKind.wrap_i64]; omega, h2.1, h2.2, hx.1, hx.2, by rw [IntKind.wrap_i64]; omega⟩

set_option maxHeartbeats 8000000 in
set_option maxRecDepth 100000 in
set_option linter.unusedSimpArgs false in
theorem mergeA_any (g n a m b : Nat) (f : Nat → Nat) (cv : Nat → Nat → Int) (fk : Nat) (bd : Array Value) (w0 w : World) (Inv : World → Prop) (CI : CmpInv g n cv fk bd Inv) (W0 : Wo n (ltc cv)) (hn : n ≤ 100000) (M : Mg n (ltc cv) f a m b) (hm : m = a + 1) (hge : w0.heap.size ≤ g) (hA : At w0 g n Inv f w) :
    Calls Try.prog 27 #[.slice (some ⟨g, 0, none⟩) n n, .int .i64 (a : Int), .int .i64 (m : Int), .int .i64 (b : Int), .func (.func fk) #[] bd] w (SrPost w0 g n Inv cv a b f) := by
  have HCI := hide CI
  have HGE := hide hge
  have HA0 := hide hA
  have HRN := hide M.rng
  have HS1 := hide M.s1
  have HS2 := hide M.s2
  have HST := hide M.st
  have HW := hide W0
  have ham := M.am
  have hmb := M.mb
  have hbn := M.bn
  have q0 : IntKind.i64.wrap ((m : Int) - (a : Int)) = 1 := by rw [IntKind.wrap_i64]; omega
  have HMB := hide hmb
  have HBN := hide hbn
  have HM := hide hm
  clear CI hge hA M W0 ham hmb hbn hm
  go_enter Try.func27, Try.ntmps27
  go_wp2_with fail
  clear q0
  go_loopw [10, 11] (fun vi vj wr => ∃ (i j : Nat), vi = .int .i64 (i : Int) ∧ vj = .int .i64 (j : Int) ∧ m ≤ i ∧ i ≤ j ∧ j ≤ b ∧ (∀ q, m ≤ q → q < i → Lo (ltc cv) (f q) (f a)) ∧ (∀ q, j ≤ q → q < b → Lo (ltc cv) (f a) (f q)) ∧ At w0 g n Inv f wr) (fun vi vj _ => (intOf vj).toNat - (intOf vi).toNat)
  case atStart => exact ⟨m, b, rfl, rfl, Nat.le_refl _, Nat.le_of_lt (unhide HMB), Nat.le_refl _, fun q h1 h2 => by omega, fun q h1 h2 => by omega, unhide HA0⟩
  case round =>
    obtain ⟨i, j, rfl, rfl, hi, hij, hj, hlo, hhi, hA⟩ := hrel
    have HAT := hide hA
    have HLO := hide hlo
    have HHI := hide hhi
    clear hA hlo hhi HA0
    have hbn := unhide HBN
    have hm := unhide HM
    by_cases hlt : i < j
    · have e1 : (i : Int) < (j : Int) := by omega
      obtain ⟨s, x, e2, e3, e4, hx1, hx2, e9⟩ := half_all hlt (show j ≤ n by omega) hn
      have hxn : x < n := by omega
      have hyn : a < n := by omega
      have e5 : (0 : Int) ≤ (x : Int) := by omega
      have e6 : (x : Int) < (n : Int) := by omega
      have e7 : (0 : Int) ≤ (a : Int) := by omega
      have e8 : (a : Int) < (n : Int) := by omega
      have B : Hid (m ≤ i ∧ i ≤ x ∧ x < j ∧ j ≤ b ∧ b ≤ n ∧ m = a + 1) := ⟨by omega, by omega, by omega, by omega, by omega, hm⟩
      clear hi hj hlt hij hm hbn hx1 hx2
      obtain ⟨vx, hvx⟩ : ∃ v, f x = v := ⟨_, rfl⟩
      obtain ⟨vy, hvy⟩ : ∃ v, f a = v := ⟨_, rfl⟩
      have HVX := hide hvx
      have HVY := hide hvy
      have HCC : Hid (∀ W, Below wr.heap.size wr W → (fun w' : World => w'.cell? ⟨g, x, none⟩ = some (.int .i64 (vx : Int)) ∧ w'.cell? ⟨g, a, none⟩ = some (.int .i64 (vy : Int))) W) := fun W hW => ⟨by rw [hW.cell (p := ⟨g, x, none⟩) (unhide HAT).own.lt, (unhide HAT).own.cell hxn, hvx], by rw [hW.cell (p := ⟨g, a, none⟩) (unhide HAT).own.lt, (unhide HAT).own.cell hyn, hvy]⟩
      have heg := (unhide HCI).eg
      have HCM : Hid (∃ z : Int, cv vx vy = z ∧ ∀ W, Below wr.heap.size wr W → Calls Try.prog fk (#[.int .i64 (vx : Int), .int .i64 (vy : Int)] ++ bd) W fun e w' => e = .returned (.int .i64 z) ∧ Below W.heap.size W w') := ⟨_, rfl, fun W hW => (unhide HCI).cmp vx vy W (by rw [← hvx]; exact unhide HRN x hxn) (by rw [← hvy]; exact unhide HRN a hyn) ((unhide HCI).keep _ _ (unhide HAT).inv hW)⟩
      obtain ⟨z, hz, hcm⟩ := unhide HCM
      have HZ := hide hz
      have HCA := hide hcm
      clear hvx hvy hz hcm HCM
      by_cases hk : z < 0
      · have dz : decide (z < 0) = true := decide_eq_true hk
        have HK : Hid (ltc cv (f x) (f a) = true) := by unfold ltc; rw [unhide HVX, unhide HVY, unhide HZ]; exact dz
        clear hk
        go_wp2_with fail
        refine wp_region_hold (fun w' : World => w'.cell? ⟨g, x, none⟩ = some (.int .i64 (vx : Int)) ∧ w'.cell? ⟨g, a, none⟩ = some (.int .i64 (vy : Int))) (by kernel_rfl) ?_
        have bd0 : Below wr.heap.size wr wr.drew := (Below.refl _ _).drew
        have hC0 : (fun w' : World => w'.cell? ⟨g, x, none⟩ = some (.int .i64 (vx : Int)) ∧ w'.cell? ⟨g, a, none⟩ = some (.int .i64 (vy : Int))) wr.drew := unhide HCC _ bd0
        refine wpHold_take (i := 0) (v := ?_) rfl (by kernel_rfl) (by kernel_rfl) (by kernel_rfl) (fun _ _ _ h => h) (Or.inl ⟨by rfl, ?_⟩) hC0 ?_
        rotate_left
        · intro w hSw; clear hSw; go_simp; (try with_reducible rfl)
        (try simp only [List.getElem_toArray, List.getElem_cons_succ, List.getElem_cons_zero])
        (try simp only [Act.put, List.setIfInBounds_toArray, List.set_cons_zero, List.set_cons_succ])
        refine wpHold_take (i := 1) (v := ?_) rfl (by kernel_rfl) (by kernel_rfl) (by kernel_rfl) (fun _ _ _ h => h) (Or.inl ⟨by rfl, ?_⟩) hC0 ?_
        rotate_left
        · intro w hSw; clear hSw; go_simp; (try with_reducible rfl)
        (try simp only [List.getElem_toArray, List.getElem_cons_succ, List.getElem_cons_zero])
        (try simp only [Act.put, List.setIfInBounds_toArray, List.set_cons_zero, List.set_cons_succ])
        refine wpHold_take (i := 2) (v := ?_) rfl (by kernel_rfl) (by kernel_rfl) (by kernel_rfl) (fun _ _ _ h => h) (Or.inl ⟨by rfl, ?_⟩) hC0 ?_
        rotate_left
        · intro w hSw; clear hSw; go_simp; (try with_reducible rfl)
        (try simp only [List.getElem_toArray, List.getElem_cons_succ, List.getElem_cons_zero])
        (try simp only [Act.put, List.setIfInBounds_toArray, List.set_cons_zero, List.set_cons_succ])
        refine wpHold_take (i := 3) (v := ?_) rfl (by kernel_rfl) (by kernel_rfl) (by kernel_rfl) (fun _ _ _ h => h) (Or.inl ⟨by rfl, ?_⟩) hC0 ?_
        rotate_left
        · intro w hSw; clear hSw; go_simp; (try with_reducible rfl)
        (try simp only [List.getElem_toArray, List.getElem_cons_succ, List.getElem_cons_zero])
        (try simp only [Act.put, List.setIfInBounds_toArray, List.set_cons_zero, List.set_cons_succ])
        refine wpHold_take (i := 4) (v := ?_) rfl (by kernel_rfl) (by kernel_rfl) (by kernel_rfl) (fun _ _ _ h => h) (Or.inl ⟨by rfl, ?_⟩) hC0 ?_
        rotate_left
        · intro w hSw; (try dsimp only at hSw); obtain ⟨z0, z1⟩ := hSw; go_simp; (try with_reducible rfl)
        (try simp only [List.getElem_toArray, List.getElem_cons_succ, List.getElem_cons_zero])
        (try simp only [Act.put, List.setIfInBounds_toArray, List.set_cons_zero, List.set_cons_succ])
        refine wpHold_take (i := 5) (v := ?_) rfl (by kernel_rfl) (by kernel_rfl) (by kernel_rfl) (fun _ _ _ h => h) (Or.inl ⟨by rfl, ?_⟩) hC0 ?_
        rotate_left
        · intro w hSw; clear hSw; go_simp; (try with_reducible rfl)
        (try simp only [List.getElem_toArray, List.getElem_cons_succ, List.getElem_cons_zero])
        (try simp only [Act.put, List.setIfInBounds_toArray, List.set_cons_zero, List.set_cons_succ])
        refine wpHold_take (i := 6) (v := ?_) rfl (by kernel_rfl) (by kernel_rfl) (by kernel_rfl) (fun _ _ _ h => h) (Or.inl ⟨by rfl, ?_⟩) hC0 ?_
        rotate_left
        · intro w hSw; clear hSw; go_simp; (try with_reducible rfl)
        (try simp only [List.getElem_toArray, List.getElem_cons_succ, List.getElem_cons_zero])
        (try simp only [Act.put, List.setIfInBounds_toArray, List.set_cons_zero, List.set_cons_succ])
        refine wpHold_take (i := 7) (v := ?_) rfl (by kernel_rfl) (by kernel_rfl) (by kernel_rfl) (fun _ _ _ h => h) (Or.inl ⟨by rfl, ?_⟩) hC0 ?_
        rotate_left
        · intro w hSw; clear hSw; go_simp; (try with_reducible rfl)
        (try simp only [List.getElem_toArray, List.getElem_cons_succ, List.getElem_cons_zero])
        (try simp only [Act.put, List.setIfInBounds_toArray, List.set_cons_zero, List.set_cons_succ])
        refine wpHold_take (i := 8) (v := ?_) rfl (by kernel_rfl) (by kernel_rfl) (by kernel_rfl) (fun _ _ _ h => h) (Or.inl ⟨by rfl, ?_⟩) hC0 ?_
        rotate_left
        · intro w hSw; (try dsimp only at hSw); obtain ⟨z0, z1⟩ := hSw; go_simp; (try with_reducible rfl)
        (try simp only [List.getElem_toArray, List.getElem_cons_succ, List.getElem_cons_zero])
        (try simp only [Act.put, List.setIfInBounds_toArray, List.set_cons_zero, List.set_cons_succ])
        refine wpHold_one (k := 9) (by kernel_rfl) rfl (fun K hK => ?_)
        (try simp only [List.getElem_toArray, List.getElem_cons_succ, List.getElem_cons_zero])
        go_simp
        refine (unhide HCA _ bd0).mono ?_
        rintro e xw_1 ⟨rfl, hb_1⟩
        have cc_1 := below_step bd0 hb_1
        have hC_1 : (fun w' : World => w'.cell? ⟨g, x, none⟩ = some (.int .i64 (vx : Int)) ∧ w'.cell? ⟨g, a, none⟩ = some (.int .i64 (vy : Int))) xw_1 := unhide HCC _ cc_1
        refine hK.out _ _ hC_1 ?_
        clear hK K
        (try simp only [Act.put, List.setIfInBounds_toArray, List.set_cons_zero, List.set_cons_succ])
        refine wpHold_take (i := 10) (v := ?_) rfl (by kernel_rfl) (by kernel_rfl) (by kernel_rfl) (fun _ _ _ h => h) (Or.inl ⟨by rfl, ?_⟩) hC_1 ?_
        rotate_left
        · intro w hSw; clear hSw; go_simp; (try with_reducible rfl)
        (try simp only [List.getElem_toArray, List.getElem_cons_succ, List.getElem_cons_zero])
        (try simp only [Act.put, List.setIfInBounds_toArray, List.set_cons_zero, List.set_cons_succ])
        refine wpHold_done (by kernel_rfl) ?_ _
        have HBW := hide cc_1
        clear hC0 hC_1 cc_1 hb_1 bd0
        clear HCC HCA HVX HVY dz
        go_wp2_with fail
        obtain ⟨b1, b2, b3, b4, b5, b6⟩ := unhide B
        refine ⟨⟨x + 1, j, by go_num, rfl, by omega, by omega, by omega, fun q h1 h2 => ?_, unhide HHI, (unhide HAT).keep (unhide HCI) (unhide HBW)⟩, by simp [intOf]; omega⟩
        rcases Nat.lt_or_ge q x with c | c
        · exact (unhide HW).trans (unhide HRN _ (by omega)) (unhide HRN _ (by omega)) (unhide HRN _ (by omega)) (unhide HS2 q x h1 c (by omega)) (Or.inl (unhide HK))
        · rw [show q = x by omega]; exact Or.inl (unhide HK)
      · have dz : decide (z < 0) = false := decide_eq_false hk
        have HK : Hid (ltc cv (f x) (f a) = false) := by unfold ltc; rw [unhide HVX, unhide HVY, unhide HZ]; exact dz
        clear hk
        go_wp2_with fail
        refine wp_region_hold (fun w' : World => w'.cell? ⟨g, x, none⟩ = some (.int .i64 (vx : Int)) ∧ w'.cell? ⟨g, a, none⟩ = some (.int .i64 (vy : Int))) (by kernel_rfl) ?_
        have bd0 : Below wr.heap.size wr wr.drew := (Below.refl _ _).drew
        have hC0 : (fun w' : World => w'.cell? ⟨g, x, none⟩ = some (.int .i64 (vx : Int)) ∧ w'.cell? ⟨g, a, none⟩ = some (.int .i64 (vy : Int))) wr.drew := unhide HCC _ bd0
        refine wpHold_take (i := 0) (v := ?_) rfl (by kernel_rfl) (by kernel_rfl) (by kernel_rfl) (fun _ _ _ h => h) (Or.inl ⟨by rfl, ?_⟩) hC0 ?_
        rotate_left
        · intro w hSw; clear hSw; go_simp; (try with_reducible rfl)
        (try simp only [List.getElem_toArray, List.getElem_cons_succ, List.getElem_cons_zero])
        (try simp only [Act.put, List.setIfInBounds_toArray, List.set_cons_zero, List.set_cons_succ])
        refine wpHold_take (i := 1) (v := ?_) rfl (by kernel_rfl) (by kernel_rfl) (by kernel_rfl) (fun _ _ _ h => h) (Or.inl ⟨by rfl, ?_⟩) hC0 ?_
        rotate_left
        · intro w hSw; clear hSw; go_simp; (try with_reducible rfl)
        (try simp only [List.getElem_toArray, List.getElem_cons_succ, List.getElem_cons_zero])
        (try simp only [Act.put, List.setIfInBounds_toArray, List.set_cons_zero, List.set_cons_succ])
        refine wpHold_take (i := 2) (v := ?_) rfl (by kernel_rfl) (by kernel_rfl) (by kernel_rfl) (fun _ _ _ h => h) (Or.inl ⟨by rfl, ?_⟩) hC0 ?_
        rotate_left
        · intro w hSw; clear hSw; go_simp; (try with_reducible rfl)
        (try simp only [List.getElem_toArray, List.getElem_cons_succ, List.getElem_cons_zero])
        (try simp only [Act.put, List.setIfInBounds_toArray, List.set_cons_zero, List.set_cons_succ])
        refine wpHold_take (i := 3) (v := ?_) rfl (by kernel_rfl) (by kernel_rfl) (by kernel_rfl) (fun _ _ _ h => h) (Or.inl ⟨by rfl, ?_⟩) hC0 ?_
        rotate_left
        · intro w hSw; clear hSw; go_simp; (try with_reducible rfl)
        (try simp only [List.getElem_toArray, List.getElem_cons_succ, List.getElem_cons_zero])
        (try simp only [Act.put, List.setIfInBounds_toArray, List.set_cons_zero, List.set_cons_succ])
        refine wpHold_take (i := 4) (v := ?_) rfl (by kernel_rfl) (by kernel_rfl) (by kernel_rfl) (fun _ _ _ h => h) (Or.inl ⟨by rfl, ?_⟩) hC0 ?_
        rotate_left
        · intro w hSw; (try dsimp only at hSw); obtain ⟨z0, z1⟩ := hSw; go_simp; (try with_reducible rfl)
        (try simp only [List.getElem_toArray, List.getElem_cons_succ, List.getElem_cons_zero])
        (try simp only [Act.put, List.setIfInBounds_toArray, List.set_cons_zero, List.set_cons_succ])
        refine wpHold_take (i := 5) (v := ?_) rfl (by kernel_rfl) (by kernel_rfl) (by kernel_rfl) (fun _ _ _ h => h) (Or.inl ⟨by rfl, ?_⟩) hC0 ?_
        rotate_left
        · intro w hSw; clear hSw; go_simp; (try with_reducible rfl)
        (try simp only [List.getElem_toArray, List.getElem_cons_succ, List.getElem_cons_zero])
        (try simp only [Act.put, List.setIfInBounds_toArray, List.set_cons_zero, List.set_cons_succ])
        refine wpHold_take (i := 6) (v := ?_) rfl (by kernel_rfl) (by kernel_rfl) (by kernel_rfl) (fun _ _ _ h => h) (Or.inl ⟨by rfl, ?_⟩) hC0 ?_
        rotate_left
        · intro w hSw; clear hSw; go_simp; (try with_reducible rfl)
        (try simp only [List.getElem_toArray, List.getElem_cons_succ, List.getElem_cons_zero])
        (try simp only [Act.put, List.setIfInBounds_toArray, List.set_cons_zero, List.set_cons_succ])
        refine wpHold_take (i := 7) (v := ?_) rfl (by kernel_rfl) (by kernel_rfl) (by kernel_rfl) (fun _ _ _ h => h) (Or.inl ⟨by rfl, ?_⟩) hC0 ?_
        rotate_left
        · intro w hSw; clear hSw; go_simp; (try with_reducible rfl)
        (try simp only [List.getElem_toArray, List.getElem_cons_succ, List.getElem_cons_zero])
        (try simp only [Act.put, List.setIfInBounds_toArray, List.set_cons_zero, List.set_cons_succ])
        refine wpHold_take (i := 8) (v := ?_) rfl (by kernel_rfl) (by kernel_rfl) (by kernel_rfl) (fun _ _ _ h => h) (Or.inl ⟨by rfl, ?_⟩) hC0 ?_
        rotate_left
        · intro w hSw; (try dsimp only at hSw); obtain ⟨z0, z1⟩ := hSw; go_simp; (try with_reducible rfl)
        (try simp only [List.getElem_toArray, List.getElem_cons_succ, List.getElem_cons_zero])
        (try simp only [Act.put, List.setIfInBounds_toArray, List.set_cons_zero, List.set_cons_succ])
        refine wpHold_one (k := 9) (by kernel_rfl) rfl (fun K hK => ?_)
        (try simp only [List.getElem_toArray, List.getElem_cons_succ, List.getElem_cons_zero])
        go_simp
        refine (unhide HCA _ bd0).mono ?_
        rintro e xw_1 ⟨rfl, hb_1⟩
        have cc_1 := below_step bd0 hb_1
        have hC_1 : (fun w' : World => w'.cell? ⟨g, x, none⟩ = some (.int .i64 (vx : Int)) ∧ w'.cell? ⟨g, a, none⟩ = some (.int .i64 (vy : Int))) xw_1 := unhide HCC _ cc_1
        refine hK.out _ _ hC_1 ?_
        clear hK K
        (try simp only [Act.put, List.setIfInBounds_toArray, List.set_cons_zero, List.set_cons_succ])
        refine wpHold_take (i := 10) (v := ?_) rfl (by kernel_rfl) (by kernel_rfl) (by kernel_rfl) (fun _ _ _ h => h) (Or.inl ⟨by rfl, ?_⟩) hC_1 ?_
        rotate_left
        · intro w hSw; clear hSw; go_simp; (try with_reducible rfl)
        (try simp only [List.getElem_toArray, List.getElem_cons_succ, List.getElem_cons_zero])
        (try simp only [Act.put, List.setIfInBounds_toArray, List.set_cons_zero, List.set_cons_succ])
        refine wpHold_done (by kernel_rfl) ?_ _
        have HBW := hide cc_1
        clear hC0 hC_1 cc_1 hb_1 bd0
        clear HCC HCA HVX HVY dz
        go_wp2_with fail
        obtain ⟨b1, b2, b3, b4, b5, b6⟩ := unhide B
        refine ⟨⟨i, x, rfl, by go_num, by omega, by omega, by omega, unhide HLO, fun q h1 h2 => ?_, (unhide HAT).keep (unhide HCI) (unhide HBW)⟩, by simp [intOf]; omega⟩
        have k := unhide HST a x (Nat.le_refl _) (by omega) (by omega) (unhide HK)
        rcases Nat.lt_or_ge x q with c | c
        · exact (unhide HW).trans (unhide HRN _ (by omega)) (unhide HRN _ (by omega)) (unhide HRN _ (by omega)) k (unhide HS2 x q (by omega) c h2)
        · rw [show q = x by omega]; exact k
    · obtain rfl : i = j := by omega
      have e1 : ¬ (i : Int) < (i : Int) := by omega
      obtain ⟨i', hi'⟩ : ∃ x, i - 1 = x := ⟨_, rfl⟩
      have x1 : IntKind.i64.wrap ((i : Int) - 1) = (i' : Int) := by rw [IntKind.wrap_i64]; omega
      have HI' := hide hi'
      have HII := hide hi
      have HJJ := hide hj
      have b1 : i' ≤ 100000 := by omega
      clear hi hj hij hlt hbn hm hi'
      go_wp2_with fail
      (try simp only [Exit.inBlock, Exit.then])
      (try go_wp2_with fail)
      clear e1
      go_loopw [13] (fun vk wr => ∃ k : Nat, vk = .int .i64 (k : Int) ∧ a ≤ k ∧ k ≤ i' ∧ Re a b f (mvf f a k) ∧ At w0 g n Inv (mvf f a k) wr) (fun vk _ => i' - (intOf vk).toNat)
      case atStart =>
        have h1 := unhide HI'
        have h2 := unhide HII
        have h3 := unhide HM
        exact ⟨a, rfl, Nat.le_refl _, by omega, by rw [mvf_start]; exact Re.refl _ _ _, by rw [mvf_start]; exact unhide HAT⟩
      case round =>
        obtain ⟨k, rfl, hk, hk', hre, hA⟩ := hrel
        have HRE := hide hre
        obtain ⟨fj, hfj⟩ : ∃ F, mvf f a k = F := ⟨_, rfl⟩
        rw [hfj] at HRE hA
        have HAT := hide hA
        have HFJ := hide hfj
        have h1 := unhide HI'
        have h2 := unhide HII
        have h3 := unhide HM
        have h4 := unhide HJJ
        have h5 := unhide HBN
        clear hA hre hfj
        by_cases hlt : k < i'
        · have e1 : (k : Int) < (i' : Int) := by omega
          obtain ⟨y, hy⟩ : ∃ y, k + 1 = y := ⟨_, rfl⟩
          have e2 : IntKind.i64.wrap ((k : Int) + 1) = (y : Int) := by rw [IntKind.wrap_i64]; omega
          have e5 : (0 : Int) ≤ (k : Int) := by omega
          have e6 : (k : Int) < (n : Int) := by omega
          have e7 : (0 : Int) ≤ (y : Int) := by omega
          have e8 : (y : Int) < (n : Int) := by omega
          have hxn : k < n := by omega
          have hyn : y < n := by omega
          have HXY : Hid (k ≠ y) := by intro e; omega
          have HY := hide hy
          have HK := hide hk
          clear h1 h2 h3 h4 h5 hy hk
          go_wp2_with fail
          obtain ⟨vx, hvx⟩ : ∃ v, fj k = v := ⟨_, rfl⟩
          obtain ⟨vy, hvy⟩ : ∃ v, fj y = v := ⟨_, rfl⟩
          have HVX := hide hvx
          have HVY := hide hvy
          have HCC : Hid (∀ W, Below wr.heap.size wr W → (fun w' : World => w'.cell? ⟨g, k, none⟩ = some (.int .i64 (vx : Int)) ∧ w'.cell? ⟨g, y, none⟩ = some (.int .i64 (vy : Int))) W) := fun W hW => ⟨by rw [hW.cell (p := ⟨g, k, none⟩) (unhide HAT).own.lt, (unhide HAT).own.cell hxn, hvx], by rw [hW.cell (p := ⟨g, y, none⟩) (unhide HAT).own.lt, (unhide HAT).own.cell hyn, hvy]⟩
          clear hvx hvy
          refine wp_region_till (fun w' : World => w'.cell? ⟨g, k, none⟩ = some (.int .i64 (vx : Int)) ∧ w'.cell? ⟨g, y, none⟩ = some (.int .i64 (vy : Int))) 15 (by kernel_rfl) ?_
          have bd0 : Below wr.heap.size wr wr.drew := (Below.refl _ _).drew
          obtain ⟨WD, hWD⟩ : ∃ W, wr.drew = W := ⟨_, rfl⟩
          rw [hWD] at bd0 ⊢
          have hC0 : (fun w' : World => w'.cell? ⟨g, k, none⟩ = some (.int .i64 (vx : Int)) ∧ w'.cell? ⟨g, y, none⟩ = some (.int .i64 (vy : Int))) WD := unhide HCC _ bd0
          refine wpTill_pure (i := 0) (v := ?_) rfl (by kernel_rfl) (by kernel_rfl) (by kernel_rfl) (by kernel_rfl) (fun _ _ _ h => h) (Or.inl ⟨by rfl, ?_⟩) (fun _ => hC0) ?_
          rotate_left
          · intro w hSw; clear hSw; go_simp; (try with_reducible rfl)
          (try simp only [List.getElem_toArray, List.getElem_cons_succ, List.getElem_cons_zero])
          (try simp only [Act.put, List.setIfInBounds_toArray, List.set_cons_zero, List.set_cons_succ])
          refine wpTill_pure (i := 1) (v := ?_) rfl (by kernel_rfl) (by kernel_rfl) (by kernel_rfl) (by kernel_rfl) (fun _ _ _ h => h) (Or.inl ⟨by rfl, ?_⟩) (fun _ => hC0) ?_
          rotate_left
          · intro w hSw; clear hSw; go_simp; (try with_reducible rfl)
          (try simp only [List.getElem_toArray, List.getElem_cons_succ, List.getElem_cons_zero])
          (try simp only [Act.put, List.setIfInBounds_toArray, List.set_cons_zero, List.set_cons_succ])
          refine wpTill_pure (i := 2) (v := ?_) rfl (by kernel_rfl) (by kernel_rfl) (by kernel_rfl) (by kernel_rfl) (fun _ _ _ h => h) (Or.inl ⟨by rfl, ?_⟩) (fun _ => hC0) ?_
          rotate_left
          · intro w hSw; clear hSw; go_simp; (try with_reducible rfl)
          (try simp only [List.getElem_toArray, List.getElem_cons_succ, List.getElem_cons_zero])
          (try simp only [Act.put, List.setIfInBounds_toArray, List.set_cons_zero, List.set_cons_succ])
          refine wpTill_pure (i := 3) (v := ?_) rfl (by kernel_rfl) (by kernel_rfl) (by kernel_rfl) (by kernel_rfl) (fun _ _ _ h => h) (Or.inl ⟨by rfl, ?_⟩) (fun _ => hC0) ?_
          rotate_left
          · intro w hSw; clear hSw; go_simp; (try with_reducible rfl)
          (try simp only [List.getElem_toArray, List.getElem_cons_succ, List.getElem_cons_zero])
          (try simp only [Act.put, List.setIfInBounds_toArray, List.set_cons_zero, List.set_cons_succ])
          refine wpTill_pure (i := 4) (v := ?_) rfl (by kernel_rfl) (by kernel_rfl) (by kernel_rfl) (by kernel_rfl) (fun _ _ _ h => h) (Or.inl ⟨by rfl, ?_⟩) (fun _ => hC0) ?_
          rotate_left
          · intro w hSw; clear hSw; go_simp; (try with_reducible rfl)
          (try simp only [List.getElem_toArray, List.getElem_cons_succ, List.getElem_cons_zero])
          (try simp only [Act.put, List.setIfInBounds_toArray, List.set_cons_zero, List.set_cons_succ])
          refine wpTill_pure (i := 5) (v := ?_) rfl (by kernel_rfl) (by kernel_rfl) (by kernel_rfl) (by kernel_rfl) (fun _ _ _ h => h) (Or.inl ⟨by rfl, ?_⟩) (fun _ => hC0) ?_
          rotate_left
          · intro w hSw; clear hSw; go_simp; (try with_reducible rfl)
          (try simp only [List.getElem_toArray, List.getElem_cons_succ, List.getElem_cons_zero])
          (try simp only [Act.put, List.setIfInBounds_toArray, List.set_cons_zero, List.set_cons_succ])
          refine wpTill_pure (i := 6) (v := ?_) rfl (by kernel_rfl) (by kernel_rfl) (by kernel_rfl) (by kernel_rfl) (fun _ _ _ h => h) (Or.inl ⟨by rfl, ?_⟩) (fun _ => hC0) ?_
          rotate_left
          · intro w hSw; clear hSw; go_simp; (try with_reducible rfl)
          (try simp only [List.getElem_toArray, List.getElem_cons_succ, List.getElem_cons_zero])
          (try simp only [Act.put, List.setIfInBounds_toArray, List.set_cons_zero, List.set_cons_succ])
          refine wpTill_pure (i := 7) (v := ?_) rfl (by kernel_rfl) (by kernel_rfl) (by kernel_rfl) (by kernel_rfl) (fun _ _ _ h => h) (Or.inl ⟨by rfl, ?_⟩) (fun _ => hC0) ?_
          rotate_left
          · intro w hSw; clear hSw; go_simp; (try with_reducible rfl)
          (try simp only [List.getElem_toArray, List.getElem_cons_succ, List.getElem_cons_zero])
          (try simp only [Act.put, List.setIfInBounds_toArray, List.set_cons_zero, List.set_cons_succ])
          refine wpTill_pure (i := 8) (v := ?_) rfl (by kernel_rfl) (by kernel_rfl) (by kernel_rfl) (by kernel_rfl) (fun _ _ _ h => h) (Or.inl ⟨by rfl, ?_⟩) (fun _ => hC0) ?_
          rotate_left
          · intro w hSw; clear hSw; go_simp; (try with_reducible rfl)
          (try simp only [List.getElem_toArray, List.getElem_cons_succ, List.getElem_cons_zero])
          (try simp only [Act.put, List.setIfInBounds_toArray, List.set_cons_zero, List.set_cons_succ])
          refine wpTill_take (i := 9) (v := ?_) rfl (by kernel_rfl) (by kernel_rfl) (by kernel_rfl) (by kernel_rfl) (by kernel_rfl) (by kernel_rfl) (fun _ _ _ h => h) (Or.inl ⟨by rfl, ?_⟩) hC0 ?_
          rotate_left
          · intro w hSw; (try dsimp only at hSw); obtain ⟨z0, z1⟩ := hSw; go_simp; (try with_reducible rfl)
          (try simp only [List.getElem_toArray, List.getElem_cons_succ, List.getElem_cons_zero])
          (try simp only [Act.put, List.setIfInBounds_toArray, List.set_cons_zero, List.set_cons_succ])
          refine wpTill_pure (i := 10) (v := ?_) rfl (by kernel_rfl) (by kernel_rfl) (by kernel_rfl) (by kernel_rfl) (fun _ _ _ h => h) (Or.inl ⟨by rfl, ?_⟩) (fun _ => hC0) ?_
          rotate_left
          · intro w hSw; clear hSw; go_simp; (try with_reducible rfl)
          (try simp only [List.getElem_toArray, List.getElem_cons_succ, List.getElem_cons_zero])
          (try simp only [Act.put, List.setIfInBounds_toArray, List.set_cons_zero, List.set_cons_succ])
          refine wpTill_pure (i := 11) (v := ?_) rfl (by kernel_rfl) (by kernel_rfl) (by kernel_rfl) (by kernel_rfl) (fun _ _ _ h => h) (Or.inl ⟨by rfl, ?_⟩) (fun _ => hC0) ?_
          rotate_left
          · intro w hSw; clear hSw; go_simp; (try with_reducible rfl)
          (try simp only [List.getElem_toArray, List.getElem_cons_succ, List.getElem_cons_zero])
          (try simp only [Act.put, List.setIfInBounds_toArray, List.set_cons_zero, List.set_cons_succ])
          refine wpTill_pure (i := 12) (v := ?_) rfl (by kernel_rfl) (by kernel_rfl) (by kernel_rfl) (by kernel_rfl) (fun _ _ _ h => h) (Or.inl ⟨by rfl, ?_⟩) (fun _ => hC0) ?_
          rotate_left
          · intro w hSw; clear hSw; go_simp; (try with_reducible rfl)
          (try simp only [List.getElem_toArray, List.getElem_cons_succ, List.getElem_cons_zero])
          (try simp only [Act.put, List.setIfInBounds_toArray, List.set_cons_zero, List.set_cons_succ])
          refine wpTill_take (i := 13) (v := ?_) rfl (by kernel_rfl) (by kernel_rfl) (by kernel_rfl) (by kernel_rfl) (by kernel_rfl) (by kernel_rfl) (fun _ _ _ h => h) (Or.inl ⟨by rfl, ?_⟩) hC0 ?_
          rotate_left
          · intro w hSw; (try dsimp only at hSw); obtain ⟨z0, z1⟩ := hSw; go_simp; (try with_reducible rfl)
          (try simp only [List.getElem_toArray, List.getElem_cons_succ, List.getElem_cons_zero])
          (try simp only [Act.put, List.setIfInBounds_toArray, List.set_cons_zero, List.set_cons_succ])
          refine wpTill_pure (i := 14) (v := ?_) rfl (by kernel_rfl) (by kernel_rfl) (by kernel_rfl) (by kernel_rfl) (fun _ _ _ h => h) (Or.inl ⟨by rfl, ?_⟩) (fun _ => hC0) ?_
          rotate_left
          · intro w hSw; clear hSw; go_simp; (try with_reducible rfl)
          (try simp only [List.getElem_toArray, List.getElem_cons_succ, List.getElem_cons_zero])
          (try simp only [Act.put, List.setIfInBounds_toArray, List.set_cons_zero, List.set_cons_succ])
          have at0 := (unhide HAT).keep (unhide HCI) bd0
          have y0 := at0.own.cell hxn
          have l0 := at0.own.free k
          have at2 := at0.swap (unhide HCI) (unhide HGE) (x := k) (y := y) (unhide HXY)
          have o1 := at0.own.set k (vy : Int)
          rw [unhide HVX, unhide HVY] at at2
          obtain ⟨W5, hW5⟩ : ∃ W, WD.setCell ⟨g, k, none⟩ (.int .i64 (vy : Int)) = W := ⟨_, rfl⟩
          rw [hW5] at at2 o1
          have y1 := o1.cell hyn
          have l1 := o1.free y
          obtain ⟨W6, hW6⟩ : ∃ W, W5.setCell ⟨g, y, none⟩ (.int .i64 (vx : Int)) = W := ⟨_, rfl⟩
          rw [hW6] at at2
          have HA2 := hide at2
          obtain ⟨u0, y0⟩ : ∃ u : Value, WD.cell? ⟨g, k, none⟩ = some u := ⟨_, y0⟩
          obtain ⟨u1, y1⟩ : ∃ u : Value, W5.cell? ⟨g, y, none⟩ = some u := ⟨_, y1⟩
          clear at0 at2 o1
          refine wpTill_one (k := 15) (by kernel_rfl) rfl (fun K hK => ?_)
          (try simp only [List.getElem_toArray, List.getElem_cons_succ, List.getElem_cons_zero])
          go_simp
          refine hK.out _ _ (fun h => absurd (h.symm.trans (by kernel_rfl)) Bool.false_ne_true) ?_
          clear hK K
          (try simp only [Act.put, List.setIfInBounds_toArray, List.set_cons_zero, List.set_cons_succ])
          refine wpTill_one (k := 16) (by kernel_rfl) rfl (fun K hK => ?_)
          (try simp only [List.getElem_toArray, List.getElem_cons_succ, List.getElem_cons_zero])
          go_simp
          refine hK.out _ _ (fun h => absurd (h.symm.trans (by kernel_rfl)) Bool.false_ne_true) ?_
          clear hK K
          (try simp only [Act.put, List.setIfInBounds_toArray, List.set_cons_zero, List.set_cons_succ])
          refine wpTill_one (k := 17) (by kernel_rfl) rfl (fun K hK => ?_)
          (try simp only [List.getElem_toArray, List.getElem_cons_succ, List.getElem_cons_zero])
          go_simp
          refine hK.out _ _ (fun h => absurd (h.symm.trans (by kernel_rfl)) Bool.false_ne_true) ?_
          clear hK K
          (try simp only [Act.put, List.setIfInBounds_toArray, List.set_cons_zero, List.set_cons_succ])
          refine wpTill_done (by kernel_rfl) ?_ _
          clear hC0 bd0 HCC hW5 hW6 hWD y0 y1 l0 l1
          go_wp2_with fail
          have h1 := unhide HI'
          have h4 := unhide HJJ
          have k1 := unhide HY
          have k2 := unhide HK
          have h := unhide HA2
          have r := (unhide HRE).trans (Re.swp fj (x := k) (y := y) (a := a) (b := b) (by omega) (by omega) (by omega) (by omega))
          rw [← unhide HFJ, ← k1, mvf_step f k2] at h r
          exact ⟨⟨k + 1, by rw [← k1], by omega, by omega, r, h⟩, by simp [intOf]; omega⟩
        · obtain rfl : k = i' := by omega
          have e1 : ¬ (k : Int) < (k : Int) := by omega
          have HSR : Hid (Sr (ltc cv) fj a b) := by
            rw [← unhide HFJ, ← h1]
            refine mvf_sorted h4 (by omega) (by rw [← h3]; exact unhide HS2) (fun q c1 c2 => unhide HLO q (by omega) c2) (unhide HHI)
          clear h1 h2 h3 h4 h5 hk
          go_wp2
          (try simp only [Exit.inBlock, Exit.then])
          (try go_wp2)
          exact bodyPost_ret (v := .tuple #[]) (by simp [results, Try.results27, go_sem]) rfl ⟨rfl, fj, unhide HAT, unhide HRE, unhide HSR⟩

set_option maxHeartbeats 8000000 in
set_option maxRecDepth 100000 in
set_option linter.unusedSimpArgs false in
theorem mergeB_any (g n a m b : Nat) (f : Nat → Nat) (cv : Nat → Nat → Int) (fk : Nat) (bd : Array Value) (w0 w : World) (Inv : World → Prop) (CI : CmpInv g n cv fk bd Inv) (W0 : Wo n (ltc cv)) (hn : n ≤ 100000) (M : Mg n (ltc cv) f a m b) (hm1 : m ≠ a + 1) (hm : b = m + 1) (hge : w0.heap.size ≤ g) (hA : At w0 g n Inv f w) :
    Calls Try.prog 27 #[.slice (some ⟨g, 0, none⟩) n n, .int .i64 (a : Int), .int .i64 (m : Int), .int .i64 (b : Int), .func (.func fk) #[] bd] w (SrPost w0 g n Inv cv a b f) := by
  have HCI := hide CI
  have HGE := hide hge
  have HA0 := hide hA
  have HRN := hide M.rng
  have HS1 := hide M.s1
  have HS2 := hide M.s2
  have HST := hide M.st
  have HW := hide W0
  have ham := M.am
  have hmb := M.mb
  have hbn := M.bn
  obtain ⟨d, hd⟩ : ∃ d, m - a = d := ⟨_, rfl⟩
  have q0 : IntKind.i64.wrap ((m : Int) - (a : Int)) = (d : Int) := by rw [IntKind.wrap_i64]; omega
  have q1 : ((d : Int) == 1) = false := by simp; omega
  have q2 : IntKind.i64.wrap ((b : Int) - (m : Int)) = 1 := by rw [IntKind.wrap_i64]; omega
  have q3 : (d : Int) ≠ 1 := by omega
  have HAM := hide ham
  have HBN := hide hbn
  have HM := hide hm
  clear CI hge hA M W0 ham hmb hbn hm hm1 hd
  go_enter Try.func27, Try.ntmps27
  go_wp2_with fail
  clear q0 q1 q2 q3
  go_loopw [14, 15] (fun vi vj wr => ∃ (i j : Nat), vi = .int .i64 (i : Int) ∧ vj = .int .i64 (j : Int) ∧ a ≤ i ∧ i ≤ j ∧ j ≤ m ∧ (∀ q, a ≤ q → q < i → Lo (ltc cv) (f q) (f m)) ∧ (∀ q, j ≤ q → q < m → Lo (ltc cv) (f m) (f q)) ∧ At w0 g n Inv f wr) (fun vi vj _ => (intOf vj).toNat - (intOf vi).toNat)
  case atStart => exact ⟨a, m, rfl, rfl, Nat.le_refl _, Nat.le_of_lt (unhide HAM), Nat.le_refl _, fun q h1 h2 => by omega, fun q h1 h2 => by omega, unhide HA0⟩
  case round =>
    obtain ⟨i, j, rfl, rfl, hi, hij, hj, hlo, hhi, hA⟩ := hrel
    have HAT := hide hA
    have HLO := hide hlo
    have HHI := hide hhi
    clear hA hlo hhi HA0
    have hbn := unhide HBN
    have hm := unhide HM
    by_cases hlt : i < j
    · have e1 : (i : Int) < (j : Int) := by omega
      obtain ⟨s, y, e2, e3, e4, hx1, hx2, e9⟩ := half_all hlt (show j ≤ n by omega) hn
      have hxn : m < n := by omega
      have hyn : y < n := by omega
      have e5 : (0 : Int) ≤ (y : Int) := by omega
      have e6 : (y : Int) < (n : Int) := by omega
      have e7 : (0 : Int) ≤ (m : Int) := by omega
      have e8 : (m : Int) < (n : Int) := by omega
      have B : Hid (a ≤ i ∧ i ≤ y ∧ y < j ∧ j ≤ m ∧ b ≤ n ∧ b = m + 1) := ⟨by omega, by omega, by omega, by omega, by omega, hm⟩
      clear hi hj hlt hij hm hbn hx1 hx2
      obtain ⟨vx, hvx⟩ : ∃ v, f m = v := ⟨_, rfl⟩
      obtain ⟨vy, hvy⟩ : ∃ v, f y = v := ⟨_, rfl⟩
      have HVX := hide hvx
      have HVY := hide hvy
      have HCC : Hid (∀ W, Below wr.heap.size wr W → (fun w' : World => w'.cell? ⟨g, m, none⟩ = some (.int .i64 (vx : Int)) ∧ w'.cell? ⟨g, y, none⟩ = some (.int .i64 (vy : Int))) W) := fun W hW => ⟨by rw [hW.cell (p := ⟨g, m, none⟩) (unhide HAT).own.lt, (unhide HAT).own.cell hxn, hvx], by rw [hW.cell (p := ⟨g, y, none⟩) (unhide HAT).own.lt, (unhide HAT).own.cell hyn, hvy]⟩
      have heg := (unhide HCI).eg
      have HCM : Hid (∃ z : Int, cv vx vy = z ∧ ∀ W, Below wr.heap.size wr W → Calls Try.prog fk (#[.int .i64 (vx : Int), .int .i64 (vy : Int)] ++ bd) W fun e w' => e = .returned (.int .i64 z) ∧ Below W.heap.size W w') := ⟨_, rfl, fun W hW => (unhide HCI).cmp vx vy W (by rw [← hvx]; exact unhide HRN m hxn) (by rw [← hvy]; exact unhide HRN y hyn) ((unhide HCI).keep _ _ (unhide HAT).inv hW)⟩
      obtain ⟨z, hz, hcm⟩ := unhide HCM
      have HZ := hide hz
      have HCA := hide hcm
      clear hvx hvy hz hcm HCM
      by_cases hk : z < 0
      · have dz : decide (z < 0) = true := decide_eq_true hk
        have HK : Hid (ltc cv (f m) (f y) = true) := by unfold ltc; rw [unhide HVX, unhide HVY, unhide HZ]; exact dz
        clear hk
        go_wp2_with fail
        refine wp_region_hold (fun w' : World => w'.cell? ⟨g, m, none⟩ = some (.int .i64 (vx : Int)) ∧ w'.cell? ⟨g, y, none⟩ = some (.int .i64 (vy : Int))) (by kernel_rfl) ?_
        have bd0 : Below wr.heap.size wr wr.drew := (Below.refl _ _).drew
        have hC0 : (fun w' : World => w'.cell? ⟨g, m, none⟩ = some (.int .i64 (vx : Int)) ∧ w'.cell? ⟨g, y, none⟩ = some (.int .i64 (vy : Int))) wr.drew := unhide HCC _ bd0
        refine wpHold_take (i := 0) (v := ?_) rfl (by kernel_rfl) (by kernel_rfl) (by kernel_rfl) (fun _ _ _ h => h) (Or.inl ⟨by rfl, ?_⟩) hC0 ?_
        rotate_left
        · intro w hSw; clear hSw; go_simp; (try with_reducible rfl)
        (try simp only [List.getElem_toArray, List.getElem_cons_succ, List.getElem_cons_zero])
        (try simp only [Act.put, List.setIfInBounds_toArray, List.set_cons_zero, List.set_cons_succ])
        refine wpHold_take (i := 1) (v := ?_) rfl (by kernel_rfl) (by kernel_rfl) (by kernel_rfl) (fun _ _ _ h => h) (Or.inl ⟨by rfl, ?_⟩) hC0 ?_
        rotate_left
        · intro w hSw; clear hSw; go_simp; (try with_reducible rfl)
        (try simp only [List.getElem_toArray, List.getElem_cons_succ, List.getElem_cons_zero])
        (try simp only [Act.put, List.setIfInBounds_toArray, List.set_cons_zero, List.set_cons_succ])
        refine wpHold_take (i := 2) (v := ?_) rfl (by kernel_rfl) (by kernel_rfl) (by kernel_rfl) (fun _ _ _ h => h) (Or.inl ⟨by rfl, ?_⟩) hC0 ?_
        rotate_left
        · intro w hSw; clear hSw; go_simp; (try with_reducible rfl)
        (try simp only [List.getElem_toArray, List.getElem_cons_succ, List.getElem_cons_zero])
        (try simp only [Act.put, List.setIfInBounds_toArray, List.set_cons_zero, List.set_cons_succ])
        refine wpHold_take (i := 3) (v := ?_) rfl (by kernel_rfl) (by kernel_rfl) (by kernel_rfl) (fun _ _ _ h => h) (Or.inl ⟨by rfl, ?_⟩) hC0 ?_
        rotate_left
        · intro w hSw; clear hSw; go_simp; (try with_reducible rfl)
        (try simp only [List.getElem_toArray, List.getElem_cons_succ, List.getElem_cons_zero])
        (try simp only [Act.put, List.setIfInBounds_toArray, List.set_cons_zero, List.set_cons_succ])
        refine wpHold_take (i := 4) (v := ?_) rfl (by kernel_rfl) (by kernel_rfl) (by kernel_rfl) (fun _ _ _ h => h) (Or.inl ⟨by rfl, ?_⟩) hC0 ?_
        rotate_left
        · intro w hSw; (try dsimp only at hSw); obtain ⟨z0, z1⟩ := hSw; go_simp; (try with_reducible rfl)
        (try simp only [List.getElem_toArray, List.getElem_cons_succ, List.getElem_cons_zero])
        (try simp only [Act.put, List.setIfInBounds_toArray, List.set_cons_zero, List.set_cons_succ])
        refine wpHold_take (i := 5) (v := ?_) rfl (by kernel_rfl) (by kernel_rfl) (by kernel_rfl) (fun _ _ _ h => h) (Or.inl ⟨by rfl, ?_⟩) hC0 ?_
        rotate_left
        · intro w hSw; clear hSw; go_simp; (try with_reducible rfl)
        (try simp only [List.getElem_toArray, List.getElem_cons_succ, List.getElem_cons_zero])
        (try simp only [Act.put, List.setIfInBounds_toArray, List.set_cons_zero, List.set_cons_succ])
        refine wpHold_take (i := 6) (v := ?_) rfl (by kernel_rfl) (by kernel_rfl) (by kernel_rfl) (fun _ _ _ h => h) (Or.inl ⟨by rfl, ?_⟩) hC0 ?_
        rotate_left
        · intro w hSw; clear hSw; go_simp; (try with_reducible rfl)
        (try simp only [List.getElem_toArray, List.getElem_cons_succ, List.getElem_cons_zero])
        (try simp only [Act.put, List.setIfInBounds_toArray, List.set_cons_zero, List.set_cons_succ])
        refine wpHold_take (i := 7) (v := ?_) rfl (by kernel_rfl) (by kernel_rfl) (by kernel_rfl) (fun _ _ _ h => h) (Or.inl ⟨by rfl, ?_⟩) hC0 ?_
        rotate_left
        · intro w hSw; clear hSw; go_simp; (try with_reducible rfl)
        (try simp only [List.getElem_toArray, List.getElem_cons_succ, List.getElem_cons_zero])
        (try simp only [Act.put, List.setIfInBounds_toArray, List.set_cons_zero, List.set_cons_succ])
        refine wpHold_take (i := 8) (v := ?_) rfl (by kernel_rfl) (by kernel_rfl) (by kernel_rfl) (fun _ _ _ h => h) (Or.inl ⟨by rfl, ?_⟩) hC0 ?_
        rotate_left
        · intro w hSw; (try dsimp only at hSw); obtain ⟨z0, z1⟩ := hSw; go_simp; (try with_reducible rfl)
        (try simp only [List.getElem_toArray, List.getElem_cons_succ, List.getElem_cons_zero])
        (try simp only [Act.put, List.setIfInBounds_toArray, List.set_cons_zero, List.set_cons_succ])
        refine wpHold_one (k := 9) (by kernel_rfl) rfl (fun K hK => ?_)
        (try simp only [List.getElem_toArray, List.getElem_cons_succ, List.getElem_cons_zero])
        go_simp
        refine (unhide HCA _ bd0).mono ?_
        rintro e xw_1 ⟨rfl, hb_1⟩
        have cc_1 := below_step bd0 hb_1
        have hC_1 : (fun w' : World => w'.cell? ⟨g, m, none⟩ = some (.int .i64 (vx : Int)) ∧ w'.cell? ⟨g, y, none⟩ = some (.int .i64 (vy : Int))) xw_1 := unhide HCC _ cc_1
        refine hK.out _ _ hC_1 ?_
        clear hK K
        (try simp only [Act.put, List.setIfInBounds_toArray, List.set_cons_zero, List.set_cons_succ])
        refine wpHold_take (i := 10) (v := ?_) rfl (by kernel_rfl) (by kernel_rfl) (by kernel_rfl) (fun _ _ _ h => h) (Or.inl ⟨by rfl, ?_⟩) hC_1 ?_
        rotate_left
        · intro w hSw; clear hSw; go_simp; (try with_reducible rfl)
        (try simp only [List.getElem_toArray, List.getElem_cons_succ, List.getElem_cons_zero])
        (try simp only [Act.put, List.setIfInBounds_toArray, List.set_cons_zero, List.set_cons_succ])
        refine wpHold_take (i := 11) (v := ?_) rfl (by kernel_rfl) (by kernel_rfl) (by kernel_rfl) (fun _ _ _ h => h) (Or.inl ⟨by rfl, ?_⟩) hC_1 ?_
        rotate_left
        · intro w hSw; clear hSw; go_simp; (try with_reducible rfl)
        (try simp only [List.getElem_toArray, List.getElem_cons_succ, List.getElem_cons_zero])
        (try simp only [Act.put, List.setIfInBounds_toArray, List.set_cons_zero, List.set_cons_succ])
        refine wpHold_done (by kernel_rfl) ?_ _
        have HBW := hide cc_1
        clear hC0 hC_1 cc_1 hb_1 bd0
        clear HCC HCA HVX HVY dz
        go_wp2_with fail
        obtain ⟨b1, b2, b3, b4, b5, b6⟩ := unhide B
        refine ⟨⟨i, y, rfl, by go_num, by omega, by omega, by omega, unhide HLO, fun q h1 h2 => ?_, (unhide HAT).keep (unhide HCI) (unhide HBW)⟩, by simp [intOf]; omega⟩
        rcases Nat.lt_or_ge y q with c | c
        · exact (unhide HW).trans (unhide HRN _ (by omega)) (unhide HRN _ (by omega)) (unhide HRN _ (by omega)) (Or.inl (unhide HK)) (unhide HS1 y q (by omega) c h2)
        · rw [show q = y by omega]; exact Or.inl (unhide HK)
      · have dz : decide (z < 0) = false := decide_eq_false hk
        have HK : Hid (ltc cv (f m) (f y) = false) := by unfold ltc; rw [unhide HVX, unhide HVY, unhide HZ]; exact dz
        clear hk
        go_wp2_with fail
        refine wp_region_hold (fun w' : World => w'.cell? ⟨g, m, none⟩ = some (.int .i64 (vx : Int)) ∧ w'.cell? ⟨g, y, none⟩ = some (.int .i64 (vy : Int))) (by kernel_rfl) ?_
        have bd0 : Below wr.heap.size wr wr.drew := (Below.refl _ _).drew
        have hC0 : (fun w' : World => w'.cell? ⟨g, m, none⟩ = some (.int .i64 (vx : Int)) ∧ w'.cell? ⟨g, y, none⟩ = some (.int .i64 (vy : Int))) wr.drew := unhide HCC _ bd0
        refine wpHold_take (i := 0) (v := ?_) rfl (by kernel_rfl) (by kernel_rfl) (by kernel_rfl) (fun _ _ _ h => h) (Or.inl ⟨by rfl, ?_⟩) hC0 ?_
        rotate_left
        · intro w hSw; clear hSw; go_simp; (try with_reducible rfl)
        (try simp only [List.getElem_toArray, List.getElem_cons_succ, List.getElem_cons_zero])
        (try simp only [Act.put, List.setIfInBounds_toArray, List.set_cons_zero, List.set_cons_succ])
        refine wpHold_take (i := 1) (v := ?_) rfl (by kernel_rfl) (by kernel_rfl) (by kernel_rfl) (fun _ _ _ h => h) (Or.inl ⟨by rfl, ?_⟩) hC0 ?_
        rotate_left
        · intro w hSw; clear hSw; go_simp; (try with_reducible rfl)
        (try simp only [List.getElem_toArray, List.getElem_cons_succ, List.getElem_cons_zero])
        (try simp only [Act.put, List.setIfInBounds_toArray, List.set_cons_zero, List.set_cons_succ])
        refine wpHold_take (i := 2) (v := ?_) rfl (by kernel_rfl) (by kernel_rfl) (by kernel_rfl) (fun _ _ _ h => h) (Or.inl ⟨by rfl, ?_⟩) hC0 ?_
        rotate_left
        · intro w hSw; clear hSw; go_simp; (try with_reducible rfl)
        (try simp only [List.getElem_toArray, List.getElem_cons_succ, List.getElem_cons_zero])
        (try simp only [Act.put, List.setIfInBounds_toArray, List.set_cons_zero, List.set_cons_succ])
        refine wpHold_take (i := 3) (v := ?_) rfl (by kernel_rfl) (by kernel_rfl) (by kernel_rfl) (fun _ _ _ h => h) (Or.inl ⟨by rfl, ?_⟩) hC0 ?_
        rotate_left
        · intro w hSw; clear hSw; go_simp; (try with_reducible rfl)
        (try simp only [List.getElem_toArray, List.getElem_cons_succ, List.getElem_cons_zero])
        (try simp only [Act.put, List.setIfInBounds_toArray, List.set_cons_zero, List.set_cons_succ])
        refine wpHold_take (i := 4) (v := ?_) rfl (by kernel_rfl) (by kernel_rfl) (by kernel_rfl) (fun _ _ _ h => h) (Or.inl ⟨by rfl, ?_⟩) hC0 ?_
        rotate_left
        · intro w hSw; (try dsimp only at hSw); obtain ⟨z0, z1⟩ := hSw; go_simp; (try with_reducible rfl)
        (try simp only [List.getElem_toArray, List.getElem_cons_succ, List.getElem_cons_zero])
        (try simp only [Act.put, List.setIfInBounds_toArray, List.set_cons_zero, List.set_cons_succ])
        refine wpHold_take (i := 5) (v := ?_) rfl (by kernel_rfl) (by kernel_rfl) (by kernel_rfl) (fun _ _ _ h => h) (Or.inl ⟨by rfl, ?_⟩) hC0 ?_
        rotate_left
        · intro w hSw; clear hSw; go_simp; (try with_reducible rfl)
        (try simp only [List.getElem_toArray, List.getElem_cons_succ, List.getElem_cons_zero])
        (try simp only [Act.put, List.setIfInBounds_toArray, List.set_cons_zero, List.set_cons_succ])
        refine wpHold_take (i := 6) (v := ?_) rfl (by kernel_rfl) (by kernel_rfl) (by kernel_rfl) (fun _ _ _ h => h) (Or.inl ⟨by rfl, ?_⟩) hC0 ?_
        rotate_left
        · intro w hSw; clear hSw; go_simp; (try with_reducible rfl)
        (try simp only [List.getElem_toArray, List.getElem_cons_succ, List.getElem_cons_zero])
        (try simp only [Act.put, List.setIfInBounds_toArray, List.set_cons_zero, List.set_cons_succ])
        refine wpHold_take (i := 7) (v := ?_) rfl (by kernel_rfl) (by kernel_rfl) (by kernel_rfl) (fun _ _ _ h => h) (Or.inl ⟨by rfl, ?_⟩) hC0 ?_
        rotate_left
        · intro w hSw; clear hSw; go_simp; (try with_reducible rfl)
        (try simp only [List.getElem_toArray, List.getElem_cons_succ, List.getElem_cons_zero])
        (try simp only [Act.put, List.setIfInBounds_toArray, List.set_cons_zero, List.set_cons_succ])
        refine wpHold_take (i := 8) (v := ?_) rfl (by kernel_rfl) (by kernel_rfl) (by kernel_rfl) (fun _ _ _ h => h) (Or.inl ⟨by rfl, ?_⟩) hC0 ?_
        rotate_left
        · intro w hSw; (try dsimp only at hSw); obtain ⟨z0, z1⟩ := hSw; go_simp; (try with_reducible rfl)
        (try simp only [List.getElem_toArray, List.getElem_cons_succ, List.getElem_cons_zero])
        (try simp only [Act.put, List.setIfInBounds_toArray, List.set_cons_zero, List.set_cons_succ])
        refine wpHold_one (k := 9) (by kernel_rfl) rfl (fun K hK => ?_)
        (try simp only [List.getElem_toArray, List.getElem_cons_succ, List.getElem_cons_zero])
        go_simp
        refine (unhide HCA _ bd0).mono ?_
        rintro e xw_1 ⟨rfl, hb_1⟩
        have cc_1 := below_step bd0 hb_1
        have hC_1 : (fun w' : World => w'.cell? ⟨g, m, none⟩ = some (.int .i64 (vx : Int)) ∧ w'.cell? ⟨g, y, none⟩ = some (.int .i64 (vy : Int))) xw_1 := unhide HCC _ cc_1
        refine hK.out _ _ hC_1 ?_
        clear hK K
        (try simp only [Act.put, List.setIfInBounds_toArray, List.set_cons_zero, List.set_cons_succ])
        refine wpHold_take (i := 10) (v := ?_) rfl (by kernel_rfl) (by kernel_rfl) (by kernel_rfl) (fun _ _ _ h => h) (Or.inl ⟨by rfl, ?_⟩) hC_1 ?_
        rotate_left
        · intro w hSw; clear hSw; go_simp; (try with_reducible rfl)
        (try simp only [List.getElem_toArray, List.getElem_cons_succ, List.getElem_cons_zero])
        (try simp only [Act.put, List.setIfInBounds_toArray, List.set_cons_zero, List.set_cons_succ])
        refine wpHold_take (i := 11) (v := ?_) rfl (by kernel_rfl) (by kernel_rfl) (by kernel_rfl) (fun _ _ _ h => h) (Or.inl ⟨by rfl, ?_⟩) hC_1 ?_
        rotate_left
        · intro w hSw; clear hSw; go_simp; (try with_reducible rfl)
        (try simp only [List.getElem_toArray, List.getElem_cons_succ, List.getElem_cons_zero])
        (try simp only [Act.put, List.setIfInBounds_toArray, List.set_cons_zero, List.set_cons_succ])
        refine wpHold_done (by kernel_rfl) ?_ _
        have HBW := hide cc_1
        clear hC0 hC_1 cc_1 hb_1 bd0
        clear HCC HCA HVX HVY dz
        go_wp2_with fail
        obtain ⟨b1, b2, b3, b4, b5, b6⟩ := unhide B
        refine ⟨⟨y + 1, j, by go_num, rfl, by omega, by omega, by omega, fun q h1 h2 => ?_, unhide HHI, (unhide HAT).keep (unhide HCI) (unhide HBW)⟩, by simp [intOf]; omega⟩
        have k := unhide HST y m (by omega) (by omega) (by omega) (unhide HK)
        rcases Nat.lt_or_ge q y with c | c
        · exact (unhide HW).trans (unhide HRN _ (by omega)) (unhide HRN _ (by omega)) (unhide HRN _ (by omega)) (unhide HS1 q y (by omega) c (by omega)) k
        · rw [show q = y by omega]; exact k
    · obtain rfl : i = j := by omega
      have e1 : ¬ (i : Int) < (i : Int) := by omega
      have HII := hide hi
      have HJJ := hide hj
      have b1 : m ≤ 100000 := by omega
      clear hi hj hij hlt hbn hm
      go_wp2_with fail
      (try simp only [Exit.inBlock, Exit.then])
      (try go_wp2_with fail)
      clear e1
      go_loopw [17] (fun vk wr => ∃ k : Nat, vk = .int .i64 (k : Int) ∧ i ≤ k ∧ k ≤ m ∧ Re a b f (mvb f m k) ∧ At w0 g n Inv (mvb f m k) wr) (fun vk _ => (intOf vk).toNat)
      case atStart =>
        have h2 := unhide HJJ
        exact ⟨m, rfl, h2, Nat.le_refl _, by rw [mvb_start]; exact Re.refl _ _ _, by rw [mvb_start]; exact unhide HAT⟩
      case round =>
        obtain ⟨k, rfl, hk, hk', hre, hA⟩ := hrel
        have HRE := hide hre
        obtain ⟨fj, hfj⟩ : ∃ F, mvb f m k = F := ⟨_, rfl⟩
        rw [hfj] at HRE hA
        have HAT := hide hA
        have HFJ := hide hfj
        have h2 := unhide HII
        have h3 := unhide HM
        have h4 := unhide HJJ
        have h5 := unhide HBN
        clear hA hre hfj
        by_cases hlt : i < k
        · have e1 : (i : Int) < (k : Int) := by omega
          obtain ⟨y, hy⟩ : ∃ y, k = y + 1 := ⟨k - 1, by omega⟩
          have e2 : IntKind.i64.wrap ((k : Int) - 1) = (y : Int) := by rw [IntKind.wrap_i64]; omega
          have e5 : (0 : Int) ≤ (k : Int) := by omega
          have e6 : (k : Int) < (n : Int) := by omega
          have e7 : (0 : Int) ≤ (y : Int) := by omega
          have e8 : (y : Int) < (n : Int) := by omega
          have hxn : k < n := by omega
          have hyn : y < n := by omega
          have HXY : Hid (k ≠ y) := by intro e; omega
          have HY := hide hy
          have HK := hide hk'
          clear h2 h3 h4 h5 hy hk hk'
          go_wp2_with fail
          obtain ⟨vx, hvx⟩ : ∃ v, fj k = v := ⟨_, rfl⟩
          obtain ⟨vy, hvy⟩ : ∃ v, fj y = v := ⟨_, rfl⟩
          have HVX := hide hvx
          have HVY := hide hvy
          have HCC : Hid (∀ W, Below wr.heap.size wr W → (fun w' : World => w'.cell? ⟨g, k, none⟩ = some (.int .i64 (vx : Int)) ∧ w'.cell? ⟨g, y, none⟩ = some (.int .i64 (vy : Int))) W) := fun W hW => ⟨by rw [hW.cell (p := ⟨g, k, none⟩) (unhide HAT).own.lt, (unhide HAT).own.cell hxn, hvx], by rw [hW.cell (p := ⟨g, y, none⟩) (unhide HAT).own.lt, (unhide HAT).own.cell hyn, hvy]⟩
          clear hvx hvy
          refine wp_region_till (fun w' : World => w'.cell? ⟨g, k, none⟩ = some (.int .i64 (vx : Int)) ∧ w'.cell? ⟨g, y, none⟩ = some (.int .i64 (vy : Int))) 15 (by kernel_rfl) ?_
          have bd0 : Below wr.heap.size wr wr.drew := (Below.refl _ _).drew
          obtain ⟨WD, hWD⟩ : ∃ W, wr.drew = W := ⟨_, rfl⟩
          rw [hWD] at bd0 ⊢
          have hC0 : (fun w' : World => w'.cell? ⟨g, k, none⟩ = some (.int .i64 (vx : Int)) ∧ w'.cell? ⟨g, y, none⟩ = some (.int .i64 (vy : Int))) WD := unhide HCC _ bd0
          refine wpTill_pure (i := 0) (v := ?_) rfl (by kernel_rfl) (by kernel_rfl) (by kernel_rfl) (by kernel_rfl) (fun _ _ _ h => h) (Or.inl ⟨by rfl, ?_⟩) (fun _ => hC0) ?_
          rotate_left
          · intro w hSw; clear hSw; go_simp; (try with_reducible rfl)
          (try simp only [List.getElem_toArray, List.getElem_cons_succ, List.getElem_cons_zero])
          (try simp only [Act.put, List.setIfInBounds_toArray, List.set_cons_zero, List.set_cons_succ])
          refine wpTill_pure (i := 1) (v := ?_) rfl (by kernel_rfl) (by kernel_rfl) (by kernel_rfl) (by kernel_rfl) (fun _ _ _ h => h) (Or.inl ⟨by rfl, ?_⟩) (fun _ => hC0) ?_
          rotate_left
          · intro w hSw; clear hSw; go_simp; (try with_reducible rfl)
          (try simp only [List.getElem_toArray, List.getElem_cons_succ, List.getElem_cons_zero])
          (try simp only [Act.put, List.setIfInBounds_toArray, List.set_cons_zero, List.set_cons_succ])
          refine wpTill_pure (i := 2) (v := ?_) rfl (by kernel_rfl) (by kernel_rfl) (by kernel_rfl) (by kernel_rfl) (fun _ _ _ h => h) (Or.inl ⟨by rfl, ?_⟩) (fun _ => hC0) ?_
          rotate_left
          · intro w hSw; clear hSw; go_simp; (try with_reducible rfl)
          (try simp only [List.getElem_toArray, List.getElem_cons_succ, List.getElem_cons_zero])
          (try simp only [Act.put, List.setIfInBounds_toArray, List.set_cons_zero, List.set_cons_succ])
          refine wpTill_pure (i := 3) (v := ?_) rfl (by kernel_rfl) (by kernel_rfl) (by kernel_rfl) (by kernel_rfl) (fun _ _ _ h => h) (Or.inl ⟨by rfl, ?_⟩) (fun _ => hC0) ?_
          rotate_left
          · intro w hSw; clear hSw; go_simp; (try with_reducible rfl)
          (try simp only [List.getElem_toArray, List.getElem_cons_succ, List.getElem_cons_zero])
          (try simp only [Act.put, List.setIfInBounds_toArray, List.set_cons_zero, List.set_cons_succ])
          refine wpTill_pure (i := 4) (v := ?_) rfl (by kernel_rfl) (by kernel_rfl) (by kernel_rfl) (by kernel_rfl) (fun _ _ _ h => h) (Or.inl ⟨by rfl, ?_⟩) (fun _ => hC0) ?_
          rotate_left
          · intro w hSw; clear hSw; go_simp; (try with_reducible rfl)
          (try simp only [List.getElem_toArray, List.getElem_cons_succ, List.getElem_cons_zero])
          (try simp only [Act.put, List.setIfInBounds_toArray, List.set_cons_zero, List.set_cons_succ])
          refine wpTill_pure (i := 5) (v := ?_) rfl (by kernel_rfl) (by kernel_rfl) (by kernel_rfl) (by kernel_rfl) (fun _ _ _ h => h) (Or.inl ⟨by rfl, ?_⟩) (fun _ => hC0) ?_
          rotate_left
          · intro w hSw; clear hSw; go_simp; (try with_reducible rfl)
          (try simp only [List.getElem_toArray, List.getElem_cons_succ, List.getElem_cons_zero])
          (try simp only [Act.put, List.setIfInBounds_toArray, List.set_cons_zero, List.set_cons_succ])
          refine wpTill_pure (i := 6) (v := ?_) rfl (by kernel_rfl) (by kernel_rfl) (by kernel_rfl) (by kernel_rfl) (fun _ _ _ h => h) (Or.inl ⟨by rfl, ?_⟩) (fun _ => hC0) ?_
          rotate_left
          · intro w hSw; clear hSw; go_simp; (try with_reducible rfl)
          (try simp only [List.getElem_toArray, List.getElem_cons_succ, List.getElem_cons_zero])
          (try simp only [Act.put, List.setIfInBounds_toArray, List.set_cons_zero, List.set_cons_succ])
          refine wpTill_pure (i := 7) (v := ?_) rfl (by kernel_rfl) (by kernel_rfl) (by kernel_rfl) (by kernel_rfl) (fun _ _ _ h => h) (Or.inl ⟨by rfl, ?_⟩) (fun _ => hC0) ?_
          rotate_left
          · intro w hSw; clear hSw; go_simp; (try with_reducible rfl)
          (try simp only [List.getElem_toArray, List.getElem_cons_succ, List.getElem_cons_zero])
          (try simp only [Act.put, List.setIfInBounds_toArray, List.set_cons_zero, List.set_cons_succ])
          refine wpTill_pure (i := 8) (v := ?_) rfl (by kernel_rfl) (by kernel_rfl) (by kernel_rfl) (by kernel_rfl) (fun _ _ _ h => h) (Or.inl ⟨by rfl, ?_⟩) (fun _ => hC0) ?_
          rotate_left
          · intro w hSw; clear hSw; go_simp; (try with_reducible rfl)
          (try simp only [List.getElem_toArray, List.getElem_cons_succ, List.getElem_cons_zero])
          (try simp only [Act.put, List.setIfInBounds_toArray, List.set_cons_zero, List.set_cons_succ])
          refine wpTill_take (i := 9) (v := ?_) rfl (by kernel_rfl) (by kernel_rfl) (by kernel_rfl) (by kernel_rfl) (by kernel_rfl) (by kernel_rfl) (fun _ _ _ h => h) (Or.inl ⟨by rfl, ?_⟩) hC0 ?_
          rotate_left
          · intro w hSw; (try dsimp only at hSw); obtain ⟨z0, z1⟩ := hSw; go_simp; (try with_reducible rfl)
          (try simp only [List.getElem_toArray, List.getElem_cons_succ, List.getElem_cons_zero])
          (try simp only [Act.put, List.setIfInBounds_toArray, List.set_cons_zero, List.set_cons_succ])
          refine wpTill_pure (i := 10) (v := ?_) rfl (by kernel_rfl) (by kernel_rfl) (by kernel_rfl) (by kernel_rfl) (fun _ _ _ h => h) (Or.inl ⟨by rfl, ?_⟩) (fun _ => hC0) ?_
          rotate_left
          · intro w hSw; clear hSw; go_simp; (try with_reducible rfl)
          (try simp only [List.getElem_toArray, List.getElem_cons_succ, List.getElem_cons_zero])
          (try simp only [Act.put, List.setIfInBounds_toArray, List.set_cons_zero, List.set_cons_succ])
          refine wpTill_pure (i := 11) (v := ?_) rfl (by kernel_rfl) (by kernel_rfl) (by kernel_rfl) (by kernel_rfl) (fun _ _ _ h => h) (Or.inl ⟨by rfl, ?_⟩) (fun _ => hC0) ?_
          rotate_left
          · intro w hSw; clear hSw; go_simp; (try with_reducible rfl)
          (try simp only [List.getElem_toArray, List.getElem_cons_succ, List.getElem_cons_zero])
          (try simp only [Act.put, List.setIfInBounds_toArray, List.set_cons_zero, List.set_cons_succ])
          refine wpTill_pure (i := 12) (v := ?_) rfl (by kernel_rfl) (by kernel_rfl) (by kernel_rfl) (by kernel_rfl) (fun _ _ _ h => h) (Or.inl ⟨by rfl, ?_⟩) (fun _ => hC0) ?_
          rotate_left
          · intro w hSw; clear hSw; go_simp; (try with_reducible rfl)
          (try simp only [List.getElem_toArray, List.getElem_cons_succ, List.getElem_cons_zero])
          (try simp only [Act.put, List.setIfInBounds_toArray, List.set_cons_zero, List.set_cons_succ])
          refine wpTill_take (i := 13) (v := ?_) rfl (by kernel_rfl) (by kernel_rfl) (by kernel_rfl) (by kernel_rfl) (by kernel_rfl) (by kernel_rfl) (fun _ _ _ h => h) (Or.inl ⟨by rfl, ?_⟩) hC0 ?_
          rotate_left
          · intro w hSw; (try dsimp only at hSw); obtain ⟨z0, z1⟩ := hSw; go_simp; (try with_reducible rfl)
          (try simp only [List.getElem_toArray, List.getElem_cons_succ, List.getElem_cons_zero])
          (try simp only [Act.put, List.setIfInBounds_toArray, List.set_cons_zero, List.set_cons_succ])
          refine wpTill_pure (i := 14) (v := ?_) rfl (by kernel_rfl) (by kernel_rfl) (by kernel_rfl) (by kernel_rfl) (fun _ _ _ h => h) (Or.inl ⟨by rfl, ?_⟩) (fun _ => hC0) ?_
          rotate_left
          · intro w hSw; clear hSw; go_simp; (try with_reducible rfl)
          (try simp only [List.getElem_toArray, List.getElem_cons_succ, List.getElem_cons_zero])
          (try simp only [Act.put, List.setIfInBounds_toArray, List.set_cons_zero, List.set_cons_succ])
          have at0 := (unhide HAT).keep (unhide HCI) bd0
          have y0 := at0.own.cell hxn
          have l0 := at0.own.free k
          have at2 := at0.swap (unhide HCI) (unhide HGE) (x := k) (y := y) (unhide HXY)
          have o1 := at0.own.set k (vy : Int)
          rw [unhide HVX, unhide HVY] at at2
          obtain ⟨W5, hW5⟩ : ∃ W, WD.setCell ⟨g, k, none⟩ (.int .i64 (vy : Int)) = W := ⟨_, rfl⟩
          rw [hW5] at at2 o1
          have y1 := o1.cell hyn
          have l1 := o1.free y
          obtain ⟨W6, hW6⟩ : ∃ W, W5.setCell ⟨g, y, none⟩ (.int .i64 (vx : Int)) = W := ⟨_, rfl⟩
          rw [hW6] at at2
          have HA2 := hide at2
          obtain ⟨u0, y0⟩ : ∃ u : Value, WD.cell? ⟨g, k, none⟩ = some u := ⟨_, y0⟩
          obtain ⟨u1, y1⟩ : ∃ u : Value, W5.cell? ⟨g, y, none⟩ = some u := ⟨_, y1⟩
          clear at0 at2 o1
          refine wpTill_one (k := 15) (by kernel_rfl) rfl (fun K hK => ?_)
          (try simp only [List.getElem_toArray, List.getElem_cons_succ, List.getElem_cons_zero])
          go_simp
          refine hK.out _ _ (fun h => absurd (h.symm.trans (by kernel_rfl)) Bool.false_ne_true) ?_
          clear hK K
          (try simp only [Act.put, List.setIfInBounds_toArray, List.set_cons_zero, List.set_cons_succ])
          refine wpTill_one (k := 16) (by kernel_rfl) rfl (fun K hK => ?_)
          (try simp only [List.getElem_toArray, List.getElem_cons_succ, List.getElem_cons_zero])
          go_simp
          refine hK.out _ _ (fun h => absurd (h.symm.trans (by kernel_rfl)) Bool.false_ne_true) ?_
          clear hK K
          (try simp only [Act.put, List.setIfInBounds_toArray, List.set_cons_zero, List.set_cons_succ])
          refine wpTill_one (k := 17) (by kernel_rfl) rfl (fun K hK => ?_)
          (try simp only [List.getElem_toArray, List.getElem_cons_succ, List.getElem_cons_zero])
          go_simp
          refine hK.out _ _ (fun h => absurd (h.symm.trans (by kernel_rfl)) Bool.false_ne_true) ?_
          clear hK K
          (try simp only [Act.put, List.setIfInBounds_toArray, List.set_cons_zero, List.set_cons_succ])
          refine wpTill_done (by kernel_rfl) ?_ _
          clear hC0 bd0 HCC hW5 hW6 hWD y0 y1 l0 l1
          go_wp2_with fail
          have h2 := unhide HII
          have h3 := unhide HM
          have h4 := unhide HJJ
          have k1 := unhide HY
          have k2 := unhide HK
          have h := unhide HA2
          have r := (unhide HRE).trans (Re.swp fj (x := k) (y := y) (a := a) (b := b) (by omega) (by omega) (by omega) (by omega))
          rw [← unhide HFJ, k1, mvb_step f (by omega)] at h r
          exact ⟨⟨y, by go_num, by omega, by omega, r, h⟩, by simp [intOf]; omega⟩
        · obtain rfl : k = i := by omega
          have e1 : ¬ (k : Int) < (k : Int) := by omega
          have HSR : Hid (Sr (ltc cv) fj a b) := by
            rw [← unhide HFJ, h3]
            exact mvb_sorted h2 h4 (unhide HS1) (unhide HLO) (unhide HHI)
          clear h2 h3 h4 h5 hk hk'
          go_wp2
          (try simp only [Exit.inBlock, Exit.then])
          (try go_wp2)
          exact bodyPost_ret (v := .tuple #[]) (by simp [results, Try.results27, go_sem]) rfl ⟨rfl, fj, unhide HAT, unhide HRE, unhide HSR⟩

end Go.Proofs.Ytbbmhidnakghfaa
