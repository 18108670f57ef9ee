/- Merging two neighbours. -/
import Derived.Test.YtbbmhidnakghfaaJ3
namespace Go.Proofs.Ytbbmhidnakghfaa
open Go.RowKit Go.Sort Stb

theorem wsub {a b c : Nat} (e : a - b = c) (h : b ≤ a) (ha : a ≤ 400000) : IntKind.i64.wrap ((a : Int) - (b : Int)) = (c : Int) := by rw [IntKind.wrap_i64]; omega
theorem wsub1 {a c : Nat} (e : a - 1 = c) (h : 1 ≤ a) (ha : a ≤ 400000) : IntKind.i64.wrap ((a : Int) - 1) = (c : Int) := by rw [IntKind.wrap_i64]; omega
theorem wadd {a b c : Nat} (e : a + b = c) (ha : c ≤ 400000) : IntKind.i64.wrap ((a : Int) + (b : Int)) = (c : Int) := by rw [IntKind.wrap_i64]; omega
theorem neq1 {d : Nat} (h : d ≠ 1) : ((d : Int) == 1) = false ∧ (d : Int) ≠ 1 := by
  have : (d : Int) ≠ 1 := by omega
  exact ⟨by simpa using this, this⟩
theorem half_mid {a b n : Nat} (h : a < b) (hb : b ≤ n) (hn : n ≤ 100000) : ∃ s x : Nat, IntKind.i64.wrap ((a : Int) + (b : Int)) = (s : Int) ∧ IntKind.u64.wrap (s : Int) = (s : Int) ∧ wrap64 ((s : Int) / 2) = (x : Int) ∧ 2 * x ≤ a + b ∧ a + b ≤ 2 * x + 1 := by
  have hx : 2 * ((a + b) / 2) ≤ a + b ∧ a + b ≤ 2 * ((a + b) / 2) + 1 := by omega
  have h2 := half_i (s := a + b) (x := (a + b) / 2) (by omega) rfl
  obtain ⟨x, e⟩ : ∃ x, (a + b) / 2 = x := ⟨_, rfl⟩
  rw [e] at hx h2
  clear e
  exact ⟨a + b, x, by rw [IntKind.wrap_i64]; omega, h2.1, h2.2, hx.1, hx.2⟩
theorem sea_rng {n : Nat} {lt : Nat → Nat → Bool} {f : Nat → Nat} {a m b mid s0 r0 c : Nat} (M : Mg n lt f a m b) (S : Sta a m b mid s0 r0) (h1 : s0 ≤ c) (h2 : c < r0) : a ≤ c ∧ c < m ∧ m ≤ mid + m - 1 - c ∧ mid + m - 1 - c < b ∧ b ≤ n := by
  obtain ⟨am, mb, bn, rng, s1, s2, st⟩ := M
  obtain ⟨d1, d2, d3⟩ := S
  clear s1 s2 st rng
  omega
theorem sea_end {n : Nat} {lt : Nat → Nat → Bool} {f : Nat → Nat} {a m b mid s0 r0 s : Nat} (M : Mg n lt f a m b) (S : Sta a m b mid s0 r0) (h : Sea lt f (mid + m - 1) s0 r0 s s) : a ≤ s ∧ s ≤ m ∧ s ≤ mid ∧ m ≤ mid + m - s ∧ mid ≤ mid + m - s ∧ mid + m - s ≤ b ∧ b ≤ n ∧ a < m ∧ m < b ∧ a < mid ∧ mid < b := by
  obtain ⟨am, mb, bn, rng, s1, s2, st⟩ := M
  obtain ⟨d1, d2, d3⟩ := S
  obtain ⟨h1, h2, h3, lo, hi⟩ := h
  clear s1 s2 st rng lo hi
  omega
theorem rot_none (f : Nat → Nat) {s m e : Nat} (h : s = m ∨ e = m) : rot f s m e = f := by
  funext x; unfold rot; grind
/-- The second call's beginning. -/
theorem mg_two {n : Nat} {lt : Nat → Nat → Bool} {g g1 : Nat → Nat} {a s mid e b : Nat} (F : Four n lt g a s mid e b) (r : Re a mid g g1) (hb : b ≤ n) (hf : Rng n g1) (h1 : mid < e) (h2 : e < b) : Mg n lt g1 mid e b := by
  have k : ∀ i, mid ≤ i → g1 i = g i := fun i hi => r.out i (by omega)
  refine ⟨h1, h2, hb, hf, F.s3.congr fun i h _ => k i h, F.s4.congr fun i h _ => k i (by omega), fun p q c1 c2 c3 => ?_⟩
  rw [k p c1, k q (by omega)]
  exact F.t2 p q c1 c2 c3

set_option maxHeartbeats 8000000 in
set_option maxRecDepth 100000 in
set_option linter.unusedSimpArgs false in
theorem mergeC_any (g n a m b : Nat) (f : Nat → Nat) (cv : Nat → Nat → Int) (fk : Nat) (bd : Array Value) (w0 w : World) (Inv : World → Prop) (CI : CmpInv g n cv fk bd Inv) (W0 : Wo n (ltc cv)) (hn : n ≤ 100000) (M : Mg n (ltc cv) f a m b) (hm1 : m ≠ a + 1) (hm2 : b ≠ m + 1) (REC : ∀ (a' m' b' : Nat) (f' : Nat → Nat) (w' : World), Mg n (ltc cv) f' a' m' b' → b' - a' < b - a → At w0 g n Inv f' w' → Calls Try.prog 27 #[.slice (some ⟨g, 0, none⟩) n n, .int .i64 (a' : Int), .int .i64 (m' : Int), .int .i64 (b' : Int), .func (.func fk) #[] bd] w' (SrPost w0 g n Inv cv a' b' f')) (hge : w0.heap.size ≤ g) (hA : At w0 g n Inv f w) :
    Calls Try.prog 27 #[.slice (some ⟨g, 0, none⟩) n n, .int .i64 (a : Int), .int .i64 (m : Int), .int .i64 (b : Int), .func (.func fk) #[] bd] w (SrPost w0 g n Inv cv a b f) := by
  have HCI := hide CI
  have HGE := hide hge
  have HA0 := hide hA
  have HRN := hide M.rng
  have HS1 := hide M.s1
  have HS2 := hide M.s2
  have HST := hide M.st
  have HW := hide W0
  have ham := M.am
  have hmb := M.mb
  have hbn := M.bn
  obtain ⟨d, hd⟩ : ∃ d, m - a = d := ⟨_, rfl⟩
  obtain ⟨d', hd'⟩ : ∃ d, b - m = d := ⟨_, rfl⟩
  have q0 := wsub hd (by omega) (by omega)
  have q2 := wsub hd' (by omega) (by omega)
  obtain ⟨q1, q3⟩ := neq1 (show d ≠ 1 by omega)
  obtain ⟨q5, q4⟩ := neq1 (show d' ≠ 1 by omega)
  obtain ⟨ab, mid, e2, e3, e4, k1, k2⟩ := half_mid (show a < b by omega) hbn hn
  obtain ⟨N, hN⟩ : ∃ x, mid + m = x := ⟨_, rfl⟩
  obtain ⟨P, hP⟩ : ∃ x, N - 1 = x := ⟨_, rfl⟩
  have e5 := wadd hN (by omega)
  have e6 := wsub1 hP (by omega) (by omega)
  have HROT : Hid (∀ (s e : Nat) (w' : World), s < m → m < e → e ≤ n → At w0 g n Inv f w' → Calls Try.prog 28 #[.slice (some ⟨g, 0, none⟩) n n, .int .i64 (s : Int), .int .i64 (m : Int), .int .i64 (e : Int), .func (.func fk) #[] bd] w' (AtPost w0 g n Inv (rot f s m e))) := fun s e w' h1 h2 h3 h4 => rotate_any g n s m e f cv fk bd w0 w' Inv CI hn h1 h2 h3 hge h4
  have HREC := hide REC
  have HMg := hide M
  have HNN := hide hN
  have HPP := hide hP
  by_cases hc : mid < m
  · obtain ⟨s0, hs0⟩ : ∃ x, N - b = x := ⟨_, rfl⟩
    have e7 := wsub hs0 (by omega) (by omega)
    have e8 : (mid : Int) < (m : Int) := by omega
    have S : Sta a m b mid s0 mid := ⟨k1, k2, Or.inl ⟨hc, by omega, rfl⟩⟩
    have HS := hide S
    have HHC := hide hc
    have HS0 : Hid (s0 ≤ mid) := by show s0 ≤ mid; omega
    clear CI hge hA M W0 ham hmb hbn hm1 hm2 hd hd' REC S hN hP k1 k2 hc hs0
    go_enter Try.func27, Try.ntmps27
    go_wp2_with fail
    (try rw [e4])
    clear q0 q1 q2 q3 q4 q5 e2 e3 e4 e5 e6 e7 e8
    go_loopw [20, 21] (fun vi vj wr => ∃ (s r : Nat), vi = .int .i64 (s : Int) ∧ vj = .int .i64 (r : Int) ∧ Sea (ltc cv) f (mid + m - 1) s0 mid s r ∧ At w0 g n Inv f wr) (fun vi vj _ => (intOf vj).toNat - (intOf vi).toNat)
    case atStart => exact ⟨s0, mid, rfl, rfl, sea_start (unhide HS0), unhide HA0⟩
    case round =>
      obtain ⟨s, r, rfl, rfl, hsea, hA⟩ := hrel
      have HAT := hide hA
      have HSEA := hide hsea
      have hs1 := hsea.h1
      have hs2 := hsea.h2
      have hs3 := hsea.h3
      clear hA HA0 hsea
      by_cases hlt : s < r
      · obtain ⟨b1, b2, b3, b4, b5⟩ := sea_rng (unhide HMg) (unhide HS) hs1 (show s < mid by omega)
        obtain ⟨b6, b7, b8, b9, b10⟩ := sea_rng (c := r - 1) (unhide HMg) (unhide HS) (by omega) (by omega)
        obtain ⟨t, c, e2, e3, e4, hx1, hx2, e9⟩ := half_all hlt (show r ≤ n by omega) hn
        obtain ⟨c1, c2, c3, c4, c5⟩ := sea_rng (c := c) (unhide HMg) (unhide HS) (by omega) (by omega)
        have e1 : (s : Int) < (r : Int) := by omega
        obtain ⟨x, hx⟩ : ∃ x, P - c = x := ⟨_, rfl⟩
        have hPP := unhide HPP
        have hNN := unhide HNN
        have hXX : x = mid + m - 1 - c := by omega
        have e5 := wsub hx (by omega) (by omega)
        have hxn : x < n := by omega
        have hyn : c < n := by omega
        have f5 : (0 : Int) ≤ (x : Int) := by omega
        have f6 : (x : Int) < (n : Int) := by omega
        have f7 : (0 : Int) ≤ (c : Int) := by omega
        have f8 : (c : Int) < (n : Int) := by omega
        have HXX := hide hXX
        have HX1 := hide hx1
        have HX2 := hide hx2
        have HRR : Hid (r ≤ 100000) := by show r ≤ 100000; omega
        clear hs1 hs2 hs3 hlt b1 b2 b3 b4 b5 b6 b7 b8 b9 b10 c1 c2 c3 c4 c5 hx1 hx2 hx hPP hNN hXX
        obtain ⟨vx, hvx⟩ : ∃ v, f x = v := ⟨_, rfl⟩
        obtain ⟨vy, hvy⟩ : ∃ v, f c = v := ⟨_, rfl⟩
        have HVX := hide hvx
        have HVY := hide hvy
        have HCC : Hid (∀ W, Below wr.heap.size wr W → (fun w' : World => w'.cell? ⟨g, x, none⟩ = some (.int .i64 (vx : Int)) ∧ w'.cell? ⟨g, c, none⟩ = some (.int .i64 (vy : Int))) W) := fun W hW => ⟨by rw [hW.cell (p := ⟨g, x, none⟩) (unhide HAT).own.lt, (unhide HAT).own.cell hxn, hvx], by rw [hW.cell (p := ⟨g, c, none⟩) (unhide HAT).own.lt, (unhide HAT).own.cell hyn, hvy]⟩
        have heg := (unhide HCI).eg
        have HCM : Hid (∃ z : Int, cv vx vy = z ∧ ∀ W, Below wr.heap.size wr W → Calls Try.prog fk (#[.int .i64 (vx : Int), .int .i64 (vy : Int)] ++ bd) W fun e w' => e = .returned (.int .i64 z) ∧ Below W.heap.size W w') := ⟨_, rfl, fun W hW => (unhide HCI).cmp vx vy W (by rw [← hvx]; exact unhide HRN x hxn) (by rw [← hvy]; exact unhide HRN c hyn) ((unhide HCI).keep _ _ (unhide HAT).inv hW)⟩
        obtain ⟨z, hz, hcm⟩ := unhide HCM
        have HZ := hide hz
        have HCA := hide hcm
        clear hvx hvy hz hcm HCM
        by_cases hk : z < 0
        · have dz : decide (z < 0) = true := decide_eq_true hk
          have HK : Hid (ltc cv (f x) (f c) = true) := by unfold ltc; rw [unhide HVX, unhide HVY, unhide HZ]; exact dz
          clear hk
          go_wp2_with fail
          refine wp_region_hold (fun w' : World => w'.cell? ⟨g, x, none⟩ = some (.int .i64 (vx : Int)) ∧ w'.cell? ⟨g, c, none⟩ = some (.int .i64 (vy : Int))) (by kernel_rfl) ?_
          have bd0 : Below wr.heap.size wr wr.drew := (Below.refl _ _).drew
          have hC0 : (fun w' : World => w'.cell? ⟨g, x, none⟩ = some (.int .i64 (vx : Int)) ∧ w'.cell? ⟨g, c, none⟩ = some (.int .i64 (vy : Int))) wr.drew := unhide HCC _ bd0
          refine wpHold_take (i := 0) (v := ?_) rfl (by kernel_rfl) (by kernel_rfl) (by kernel_rfl) (fun _ _ _ h => h) (Or.inl ⟨by rfl, ?_⟩) hC0 ?_
          rotate_left
          · intro w hSw; clear hSw; go_simp; (try with_reducible rfl)
          (try simp only [List.getElem_toArray, List.getElem_cons_succ, List.getElem_cons_zero])
          (try simp only [Act.put, List.setIfInBounds_toArray, List.set_cons_zero, List.set_cons_succ])
          refine wpHold_take (i := 1) (v := ?_) rfl (by kernel_rfl) (by kernel_rfl) (by kernel_rfl) (fun _ _ _ h => h) (Or.inl ⟨by rfl, ?_⟩) hC0 ?_
          rotate_left
          · intro w hSw; clear hSw; go_simp; (try with_reducible rfl)
          (try simp only [List.getElem_toArray, List.getElem_cons_succ, List.getElem_cons_zero])
          (try simp only [Act.put, List.setIfInBounds_toArray, List.set_cons_zero, List.set_cons_succ])
          refine wpHold_take (i := 2) (v := ?_) rfl (by kernel_rfl) (by kernel_rfl) (by kernel_rfl) (fun _ _ _ h => h) (Or.inl ⟨by rfl, ?_⟩) hC0 ?_
          rotate_left
          · intro w hSw; clear hSw; go_simp; (try with_reducible rfl)
          (try simp only [List.getElem_toArray, List.getElem_cons_succ, List.getElem_cons_zero])
          (try simp only [Act.put, List.setIfInBounds_toArray, List.set_cons_zero, List.set_cons_succ])
          refine wpHold_take (i := 3) (v := ?_) rfl (by kernel_rfl) (by kernel_rfl) (by kernel_rfl) (fun _ _ _ h => h) (Or.inl ⟨by rfl, ?_⟩) hC0 ?_
          rotate_left
          · intro w hSw; clear hSw; go_simp; (try with_reducible rfl)
          (try simp only [List.getElem_toArray, List.getElem_cons_succ, List.getElem_cons_zero])
          (try simp only [Act.put, List.setIfInBounds_toArray, List.set_cons_zero, List.set_cons_succ])
          refine wpHold_take (i := 4) (v := ?_) rfl (by kernel_rfl) (by kernel_rfl) (by kernel_rfl) (fun _ _ _ h => h) (Or.inl ⟨by rfl, ?_⟩) hC0 ?_
          rotate_left
          · intro w hSw; clear hSw; go_simp; (try with_reducible rfl)
          (try simp only [List.getElem_toArray, List.getElem_cons_succ, List.getElem_cons_zero])
          (try simp only [Act.put, List.setIfInBounds_toArray, List.set_cons_zero, List.set_cons_succ])
          refine wpHold_take (i := 5) (v := ?_) rfl (by kernel_rfl) (by kernel_rfl) (by kernel_rfl) (fun _ _ _ h => h) (Or.inl ⟨by rfl, ?_⟩) hC0 ?_
          rotate_left
          · intro w hSw; clear hSw; go_simp; (try with_reducible rfl)
          (try simp only [List.getElem_toArray, List.getElem_cons_succ, List.getElem_cons_zero])
          (try simp only [Act.put, List.setIfInBounds_toArray, List.set_cons_zero, List.set_cons_succ])
          refine wpHold_take (i := 6) (v := ?_) rfl (by kernel_rfl) (by kernel_rfl) (by kernel_rfl) (fun _ _ _ h => h) (Or.inl ⟨by rfl, ?_⟩) hC0 ?_
          rotate_left
          · intro w hSw; (try dsimp only at hSw); obtain ⟨z0, z1⟩ := hSw; go_simp; (try with_reducible rfl)
          (try simp only [List.getElem_toArray, List.getElem_cons_succ, List.getElem_cons_zero])
          (try simp only [Act.put, List.setIfInBounds_toArray, List.set_cons_zero, List.set_cons_succ])
          refine wpHold_take (i := 7) (v := ?_) rfl (by kernel_rfl) (by kernel_rfl) (by kernel_rfl) (fun _ _ _ h => h) (Or.inl ⟨by rfl, ?_⟩) hC0 ?_
          rotate_left
          · intro w hSw; clear hSw; go_simp; (try with_reducible rfl)
          (try simp only [List.getElem_toArray, List.getElem_cons_succ, List.getElem_cons_zero])
          (try simp only [Act.put, List.setIfInBounds_toArray, List.set_cons_zero, List.set_cons_succ])
          refine wpHold_take (i := 8) (v := ?_) rfl (by kernel_rfl) (by kernel_rfl) (by kernel_rfl) (fun _ _ _ h => h) (Or.inl ⟨by rfl, ?_⟩) hC0 ?_
          rotate_left
          · intro w hSw; clear hSw; go_simp; (try with_reducible rfl)
          (try simp only [List.getElem_toArray, List.getElem_cons_succ, List.getElem_cons_zero])
          (try simp only [Act.put, List.setIfInBounds_toArray, List.set_cons_zero, List.set_cons_succ])
          refine wpHold_take (i := 9) (v := ?_) rfl (by kernel_rfl) (by kernel_rfl) (by kernel_rfl) (fun _ _ _ h => h) (Or.inl ⟨by rfl, ?_⟩) hC0 ?_
          rotate_left
          · intro w hSw; clear hSw; go_simp; (try with_reducible rfl)
          (try simp only [List.getElem_toArray, List.getElem_cons_succ, List.getElem_cons_zero])
          (try simp only [Act.put, List.setIfInBounds_toArray, List.set_cons_zero, List.set_cons_succ])
          refine wpHold_take (i := 10) (v := ?_) rfl (by kernel_rfl) (by kernel_rfl) (by kernel_rfl) (fun _ _ _ h => h) (Or.inl ⟨by rfl, ?_⟩) hC0 ?_
          rotate_left
          · intro w hSw; (try dsimp only at hSw); obtain ⟨z0, z1⟩ := hSw; go_simp; (try with_reducible rfl)
          (try simp only [List.getElem_toArray, List.getElem_cons_succ, List.getElem_cons_zero])
          (try simp only [Act.put, List.setIfInBounds_toArray, List.set_cons_zero, List.set_cons_succ])
          refine wpHold_one (k := 11) (by kernel_rfl) rfl (fun K hK => ?_)
          (try simp only [List.getElem_toArray, List.getElem_cons_succ, List.getElem_cons_zero])
          go_simp
          refine (unhide HCA _ bd0).mono ?_
          rintro e xw_1 ⟨rfl, hb_1⟩
          have cc_1 := below_step bd0 hb_1
          have hC_1 : (fun w' : World => w'.cell? ⟨g, x, none⟩ = some (.int .i64 (vx : Int)) ∧ w'.cell? ⟨g, c, none⟩ = some (.int .i64 (vy : Int))) xw_1 := unhide HCC _ cc_1
          refine hK.out _ _ hC_1 ?_
          clear hK K
          (try simp only [Act.put, List.setIfInBounds_toArray, List.set_cons_zero, List.set_cons_succ])
          refine wpHold_take (i := 12) (v := ?_) rfl (by kernel_rfl) (by kernel_rfl) (by kernel_rfl) (fun _ _ _ h => h) (Or.inl ⟨by rfl, ?_⟩) hC_1 ?_
          rotate_left
          · intro w hSw; clear hSw; go_simp; (try with_reducible rfl)
          (try simp only [List.getElem_toArray, List.getElem_cons_succ, List.getElem_cons_zero])
          (try simp only [Act.put, List.setIfInBounds_toArray, List.set_cons_zero, List.set_cons_succ])
          refine wpHold_take (i := 13) (v := ?_) rfl (by kernel_rfl) (by kernel_rfl) (by kernel_rfl) (fun _ _ _ h => h) (Or.inl ⟨by rfl, ?_⟩) hC_1 ?_
          rotate_left
          · intro w hSw; clear hSw; go_simp; (try with_reducible rfl)
          (try simp only [List.getElem_toArray, List.getElem_cons_succ, List.getElem_cons_zero])
          (try simp only [Act.put, List.setIfInBounds_toArray, List.set_cons_zero, List.set_cons_succ])
          refine wpHold_done (by kernel_rfl) ?_ _
          have HBW := hide cc_1
          clear hC0 hC_1 cc_1 hb_1 bd0
          clear HCC HCA HVX HVY dz
          go_wp2_with fail
          have k1 := unhide HX1
          have k2 := unhide HX2
          have k3 := unhide HK
          rw [unhide HXX] at k3
          exact ⟨⟨s, c, rfl, by go_num, sea_hi (unhide HW) (unhide HMg) (unhide HS) (unhide HSEA) k1 k2 k3, (unhide HAT).keep (unhide HCI) (unhide HBW)⟩, by simp [intOf]; omega⟩
        · have dz : decide (z < 0) = false := decide_eq_false hk
          have HK : Hid (ltc cv (f x) (f c) = false) := by unfold ltc; rw [unhide HVX, unhide HVY, unhide HZ]; exact dz
          clear hk
          go_wp2_with fail
          refine wp_region_hold (fun w' : World => w'.cell? ⟨g, x, none⟩ = some (.int .i64 (vx : Int)) ∧ w'.cell? ⟨g, c, none⟩ = some (.int .i64 (vy : Int))) (by kernel_rfl) ?_
          have bd0 : Below wr.heap.size wr wr.drew := (Below.refl _ _).drew
          have hC0 : (fun w' : World => w'.cell? ⟨g, x, none⟩ = some (.int .i64 (vx : Int)) ∧ w'.cell? ⟨g, c, none⟩ = some (.int .i64 (vy : Int))) wr.drew := unhide HCC _ bd0
          refine wpHold_take (i := 0) (v := ?_) rfl (by kernel_rfl) (by kernel_rfl) (by kernel_rfl) (fun _ _ _ h => h) (Or.inl ⟨by rfl, ?_⟩) hC0 ?_
          rotate_left
          · intro w hSw; clear hSw; go_simp; (try with_reducible rfl)
          (try simp only [List.getElem_toArray, List.getElem_cons_succ, List.getElem_cons_zero])
          (try simp only [Act.put, List.setIfInBounds_toArray, List.set_cons_zero, List.set_cons_succ])
          refine wpHold_take (i := 1) (v := ?_) rfl (by kernel_rfl) (by kernel_rfl) (by kernel_rfl) (fun _ _ _ h => h) (Or.inl ⟨by rfl, ?_⟩) hC0 ?_
          rotate_left
          · intro w hSw; clear hSw; go_simp; (try with_reducible rfl)
          (try simp only [List.getElem_toArray, List.getElem_cons_succ, List.getElem_cons_zero])
          (try simp only [Act.put, List.setIfInBounds_toArray, List.set_cons_zero, List.set_cons_succ])
          refine wpHold_take (i := 2) (v := ?_) rfl (by kernel_rfl) (by kernel_rfl) (by kernel_rfl) (fun _ _ _ h => h) (Or.inl ⟨by rfl, ?_⟩) hC0 ?_
          rotate_left
          · intro w hSw; clear hSw; go_simp; (try with_reducible rfl)
          (try simp only [List.getElem_toArray, List.getElem_cons_succ, List.getElem_cons_zero])
          (try simp only [Act.put, List.setIfInBounds_toArray, List.set_cons_zero, List.set_cons_succ])
          refine wpHold_take (i := 3) (v := ?_) rfl (by kernel_rfl) (by kernel_rfl) (by kernel_rfl) (fun _ _ _ h => h) (Or.inl ⟨by rfl, ?_⟩) hC0 ?_
          rotate_left
          · intro w hSw; clear hSw; go_simp; (try with_reducible rfl)
          (try simp only [List.getElem_toArray, List.getElem_cons_succ, List.getElem_cons_zero])
          (try simp only [Act.put, List.setIfInBounds_toArray, List.set_cons_zero, List.set_cons_succ])
          refine wpHold_take (i := 4) (v := ?_) rfl (by kernel_rfl) (by kernel_rfl) (by kernel_rfl) (fun _ _ _ h => h) (Or.inl ⟨by rfl, ?_⟩) hC0 ?_
          rotate_left
          · intro w hSw; clear hSw; go_simp; (try with_reducible rfl)
          (try simp only [List.getElem_toArray, List.getElem_cons_succ, List.getElem_cons_zero])
          (try simp only [Act.put, List.setIfInBounds_toArray, List.set_cons_zero, List.set_cons_succ])
          refine wpHold_take (i := 5) (v := ?_) rfl (by kernel_rfl) (by kernel_rfl) (by kernel_rfl) (fun _ _ _ h => h) (Or.inl ⟨by rfl, ?_⟩) hC0 ?_
          rotate_left
          · intro w hSw; clear hSw; go_simp; (try with_reducible rfl)
          (try simp only [List.getElem_toArray, List.getElem_cons_succ, List.getElem_cons_zero])
          (try simp only [Act.put, List.setIfInBounds_toArray, List.set_cons_zero, List.set_cons_succ])
          refine wpHold_take (i := 6) (v := ?_) rfl (by kernel_rfl) (by kernel_rfl) (by kernel_rfl) (fun _ _ _ h => h) (Or.inl ⟨by rfl, ?_⟩) hC0 ?_
          rotate_left
          · intro w hSw; (try dsimp only at hSw); obtain ⟨z0, z1⟩ := hSw; go_simp; (try with_reducible rfl)
          (try simp only [List.getElem_toArray, List.getElem_cons_succ, List.getElem_cons_zero])
          (try simp only [Act.put, List.setIfInBounds_toArray, List.set_cons_zero, List.set_cons_succ])
          refine wpHold_take (i := 7) (v := ?_) rfl (by kernel_rfl) (by kernel_rfl) (by kernel_rfl) (fun _ _ _ h => h) (Or.inl ⟨by rfl, ?_⟩) hC0 ?_
          rotate_left
          · intro w hSw; clear hSw; go_simp; (try with_reducible rfl)
          (try simp only [List.getElem_toArray, List.getElem_cons_succ, List.getElem_cons_zero])
          (try simp only [Act.put, List.setIfInBounds_toArray, List.set_cons_zero, List.set_cons_succ])
          refine wpHold_take (i := 8) (v := ?_) rfl (by kernel_rfl) (by kernel_rfl) (by kernel_rfl) (fun _ _ _ h => h) (Or.inl ⟨by rfl, ?_⟩) hC0 ?_
          rotate_left
          · intro w hSw; clear hSw; go_simp; (try with_reducible rfl)
          (try simp only [List.getElem_toArray, List.getElem_cons_succ, List.getElem_cons_zero])
          (try simp only [Act.put, List.setIfInBounds_toArray, List.set_cons_zero, List.set_cons_succ])
          refine wpHold_take (i := 9) (v := ?_) rfl (by kernel_rfl) (by kernel_rfl) (by kernel_rfl) (fun _ _ _ h => h) (Or.inl ⟨by rfl, ?_⟩) hC0 ?_
          rotate_left
          · intro w hSw; clear hSw; go_simp; (try with_reducible rfl)
          (try simp only [List.getElem_toArray, List.getElem_cons_succ, List.getElem_cons_zero])
          (try simp only [Act.put, List.setIfInBounds_toArray, List.set_cons_zero, List.set_cons_succ])
          refine wpHold_take (i := 10) (v := ?_) rfl (by kernel_rfl) (by kernel_rfl) (by kernel_rfl) (fun _ _ _ h => h) (Or.inl ⟨by rfl, ?_⟩) hC0 ?_
          rotate_left
          · intro w hSw; (try dsimp only at hSw); obtain ⟨z0, z1⟩ := hSw; go_simp; (try with_reducible rfl)
          (try simp only [List.getElem_toArray, List.getElem_cons_succ, List.getElem_cons_zero])
          (try simp only [Act.put, List.setIfInBounds_toArray, List.set_cons_zero, List.set_cons_succ])
          refine wpHold_one (k := 11) (by kernel_rfl) rfl (fun K hK => ?_)
          (try simp only [List.getElem_toArray, List.getElem_cons_succ, List.getElem_cons_zero])
          go_simp
          refine (unhide HCA _ bd0).mono ?_
          rintro e xw_1 ⟨rfl, hb_1⟩
          have cc_1 := below_step bd0 hb_1
          have hC_1 : (fun w' : World => w'.cell? ⟨g, x, none⟩ = some (.int .i64 (vx : Int)) ∧ w'.cell? ⟨g, c, none⟩ = some (.int .i64 (vy : Int))) xw_1 := unhide HCC _ cc_1
          refine hK.out _ _ hC_1 ?_
          clear hK K
          (try simp only [Act.put, List.setIfInBounds_toArray, List.set_cons_zero, List.set_cons_succ])
          refine wpHold_take (i := 12) (v := ?_) rfl (by kernel_rfl) (by kernel_rfl) (by kernel_rfl) (fun _ _ _ h => h) (Or.inl ⟨by rfl, ?_⟩) hC_1 ?_
          rotate_left
          · intro w hSw; clear hSw; go_simp; (try with_reducible rfl)
          (try simp only [List.getElem_toArray, List.getElem_cons_succ, List.getElem_cons_zero])
          (try simp only [Act.put, List.setIfInBounds_toArray, List.set_cons_zero, List.set_cons_succ])
          refine wpHold_take (i := 13) (v := ?_) rfl (by kernel_rfl) (by kernel_rfl) (by kernel_rfl) (fun _ _ _ h => h) (Or.inl ⟨by rfl, ?_⟩) hC_1 ?_
          rotate_left
          · intro w hSw; clear hSw; go_simp; (try with_reducible rfl)
          (try simp only [List.getElem_toArray, List.getElem_cons_succ, List.getElem_cons_zero])
          (try simp only [Act.put, List.setIfInBounds_toArray, List.set_cons_zero, List.set_cons_succ])
          refine wpHold_done (by kernel_rfl) ?_ _
          have HBW := hide cc_1
          clear hC0 hC_1 cc_1 hb_1 bd0
          clear HCC HCA HVX HVY dz
          go_wp2_with fail
          have k1 := unhide HX1
          have k2 := unhide HX2
          have k3 := unhide HK
          rw [unhide HXX] at k3
          exact ⟨⟨c + 1, r, by go_num, rfl, sea_lo (unhide HW) (unhide HMg) (unhide HS) (unhide HSEA) k1 k2 k3, (unhide HAT).keep (unhide HCI) (unhide HBW)⟩, by simp [intOf]; omega⟩
      · obtain rfl : s = r := by omega
        have e1 : ¬ (s : Int) < (s : Int) := by omega
        obtain ⟨b1, b2, b3, b4, b5, b6, b7, b8, b9, b10, b11⟩ := sea_end (unhide HMg) (unhide HS) (unhide HSEA)
        have F := four (unhide HW) (unhide HMg) (unhide HS) (unhide HSEA)
        have rr := Re.rot f b2 b4
        obtain ⟨e, he⟩ : ∃ e, mid + m - s = e := ⟨_, rfl⟩
        rw [he] at F rr b4 b5 b6
        have hNN := unhide HNN
        have hcc := unhide HHC
        have e5 := wsub (show N - s = e by omega) (by omega) (by omega)
        have R1 : Re a b f (rot f s m e) := rr.mono (by omega) (by omega)
        obtain ⟨f1, hf1⟩ : ∃ F, rot f s m e = F := ⟨_, rfl⟩
        rw [hf1] at F R1
        have HF := hide F
        have HR1 := hide R1
        have HF1 := hide hf1
        have HRN1 := hide (R1.lt b7 (unhide HRN))
        clear F rr R1 hs1 hs2 hs3 hlt hNN
        by_cases p1 : e = m
        · have g1 : (s : Int) < (m : Int) := by omega
          have g2 : ¬ (m : Int) < (e : Int) := by omega
          have g3 : (a : Int) < (s : Int) := by omega
          have g4 : ¬ (s : Int) < (mid : Int) := by omega
          have g5 : (mid : Int) < (e : Int) := by omega
          have g6 : (e : Int) < (b : Int) := by omega
          have HBB : Hid (a ≤ s ∧ s ≤ m ∧ s ≤ mid ∧ m ≤ e ∧ mid ≤ e ∧ e ≤ b ∧ b ≤ n ∧ a < m ∧ m < b ∧ a < mid ∧ mid < b ∧ mid + m = s + e ∧ e = m) := ⟨b1, b2, b3, b4, b5, b6, b7, b8, b9, b10, b11, by omega, by first | trivial | omega⟩
          have HAT' : Hid (At w0 g n Inv f1 wr) := by rw [← hf1, rot_none f (by omega)]; exact unhide HAT
          clear HAT
          have HAT := HAT'
          clear HAT' hf1
          clear hcc b1 b2 b3 b4 b5 b6 b7 b8 b9 b10 b11 he p1
          obtain ⟨f2, hf2⟩ : ∃ F, F = f1 := ⟨_, rfl⟩
          have HRE_f2 : Hid (Re a mid f1 f2) := by rw [hf2]; exact Re.refl _ _ _
          have HSR_f2 : Hid (Sr (ltc cv) f2 a mid) := by rw [hf2]; exact by have h := (unhide HF).s1; rw [show s = mid by have := unhide HBB; omega] at h; exact h
          have HRN2 : Hid (Rng n f2) := by rw [hf2]; exact unhide HRN1
          have HAT' : Hid (At w0 g n Inv f2 wr) := by rw [hf2]; exact unhide HAT
          clear HAT
          have HAT := HAT'
          clear HAT' hf2
          have HC := hide (unhide HREC mid e b f2 wr (mg_two (unhide HF) (unhide HRE_f2) (by have := unhide HBB; omega) (unhide HRN2) (by have := unhide HBB; omega) (by have := unhide HBB; omega)) (by have := unhide HBB; omega) (unhide HAT))
          clear HAT
          go_wp2_with fail
          (try simp only [Exit.inBlock, Exit.then])
          (try go_wp2_with fail)
          refine (unhide HC).mono ?_
          rintro e_ w4 ⟨rfl, f3, hA2, hr2, hs2⟩
          have HAT := hide hA2
          have HRE_f3 := hide hr2
          have HSR_f3 := hide hs2
          clear hA2 hr2 hs2 HC
          go_wp2
          (try simp only [Exit.inBlock, Exit.then])
          (try go_wp2)
          have hbb := unhide HBB
          refine bodyPost_ret (v := .tuple #[]) (by simp [results, Try.results27, go_sem]) rfl ⟨rfl, f3, unhide HAT, ?_, four_done (unhide HF) (unhide HRE_f2) (unhide HSR_f2) (unhide HRE_f3) (unhide HSR_f3)⟩
          exact ((unhide HR1).trans ((unhide HRE_f2).mono (Nat.le_refl _) (by omega))).trans ((unhide HRE_f3).mono (by omega) (Nat.le_refl _))
        · by_cases p2 : a < s
          · by_cases p3 : e < b
            · have g1 : (s : Int) < (m : Int) := by omega
              have g2 : (m : Int) < (e : Int) := by omega
              have g3 : (a : Int) < (s : Int) := by omega
              have g4 : (s : Int) < (mid : Int) := by omega
              have g5 : (mid : Int) < (e : Int) := by omega
              have g6 : (e : Int) < (b : Int) := by omega
              have HBB : Hid (a ≤ s ∧ s ≤ m ∧ s ≤ mid ∧ m ≤ e ∧ mid ≤ e ∧ e ≤ b ∧ b ≤ n ∧ a < m ∧ m < b ∧ a < mid ∧ mid < b ∧ mid + m = s + e ∧ a < s ∧ e < b) := ⟨b1, b2, b3, b4, b5, b6, b7, b8, b9, b10, b11, by omega, by first | trivial | omega⟩
              have HC := hide (unhide HROT s e wr (by omega) (by omega) (by omega) (unhide HAT))
              clear hcc b1 b2 b3 b4 b5 b6 b7 b8 b9 b10 b11 he p1 p2 p3
              clear HAT
              rw [hf1] at HC
              clear hf1
              go_wp2_with fail
              (try simp only [Exit.inBlock, Exit.then])
              (try go_wp2_with fail)
              refine (unhide HC).mono ?_
              rintro e_ w2 ⟨rfl, hA2⟩
              have HAT := hide hA2
              clear hA2 HC
              have HC := hide (unhide HREC a s mid f1 w2 (⟨by have := unhide HBB; omega, by have := unhide HBB; omega, by have := unhide HBB; omega, unhide HRN1, (unhide HF).s1, (unhide HF).s2, (unhide HF).t1⟩) (by have := unhide HBB; omega) (unhide HAT))
              clear HAT
              go_wp2_with fail
              refine (unhide HC).mono ?_
              rintro e_ w3 ⟨rfl, f2, hA2, hr2, hs2⟩
              have HAT := hide hA2
              have HRE_f2 := hide hr2
              have HSR_f2 := hide hs2
              clear hA2 hr2 hs2 HC
              have HRN2 : Hid (Rng n f2) := (unhide HRE_f2).lt (by have := unhide HBB; omega) (unhide HRN1)
              have HC := hide (unhide HREC mid e b f2 w3 (mg_two (unhide HF) (unhide HRE_f2) (by have := unhide HBB; omega) (unhide HRN2) (by have := unhide HBB; omega) (by have := unhide HBB; omega)) (by have := unhide HBB; omega) (unhide HAT))
              clear HAT
              go_wp2_with fail
              refine (unhide HC).mono ?_
              rintro e_ w4 ⟨rfl, f3, hA2, hr2, hs2⟩
              have HAT := hide hA2
              have HRE_f3 := hide hr2
              have HSR_f3 := hide hs2
              clear hA2 hr2 hs2 HC
              go_wp2
              (try simp only [Exit.inBlock, Exit.then])
              (try go_wp2)
              have hbb := unhide HBB
              refine bodyPost_ret (v := .tuple #[]) (by simp [results, Try.results27, go_sem]) rfl ⟨rfl, f3, unhide HAT, ?_, four_done (unhide HF) (unhide HRE_f2) (unhide HSR_f2) (unhide HRE_f3) (unhide HSR_f3)⟩
              exact ((unhide HR1).trans ((unhide HRE_f2).mono (Nat.le_refl _) (by omega))).trans ((unhide HRE_f3).mono (by omega) (Nat.le_refl _))
            · have g1 : (s : Int) < (m : Int) := by omega
              have g2 : (m : Int) < (e : Int) := by omega
              have g3 : (a : Int) < (s : Int) := by omega
              have g4 : (s : Int) < (mid : Int) := by omega
              have g5 : (mid : Int) < (e : Int) := by omega
              have g6 : ¬ (e : Int) < (b : Int) := by omega
              have HBB : Hid (a ≤ s ∧ s ≤ m ∧ s ≤ mid ∧ m ≤ e ∧ mid ≤ e ∧ e ≤ b ∧ b ≤ n ∧ a < m ∧ m < b ∧ a < mid ∧ mid < b ∧ mid + m = s + e ∧ a < s ∧ e = b) := ⟨b1, b2, b3, b4, b5, b6, b7, b8, b9, b10, b11, by omega, by first | trivial | omega⟩
              have HC := hide (unhide HROT s e wr (by omega) (by omega) (by omega) (unhide HAT))
              clear hcc b1 b2 b3 b4 b5 b6 b7 b8 b9 b10 b11 he p1 p2 p3
              clear HAT
              rw [hf1] at HC
              clear hf1
              go_wp2_with fail
              (try simp only [Exit.inBlock, Exit.then])
              (try go_wp2_with fail)
              refine (unhide HC).mono ?_
              rintro e_ w2 ⟨rfl, hA2⟩
              have HAT := hide hA2
              clear hA2 HC
              have HC := hide (unhide HREC a s mid f1 w2 (⟨by have := unhide HBB; omega, by have := unhide HBB; omega, by have := unhide HBB; omega, unhide HRN1, (unhide HF).s1, (unhide HF).s2, (unhide HF).t1⟩) (by have := unhide HBB; omega) (unhide HAT))
              clear HAT
              go_wp2_with fail
              refine (unhide HC).mono ?_
              rintro e_ w3 ⟨rfl, f2, hA2, hr2, hs2⟩
              have HAT := hide hA2
              have HRE_f2 := hide hr2
              have HSR_f2 := hide hs2
              clear hA2 hr2 hs2 HC
              have HRN2 : Hid (Rng n f2) := (unhide HRE_f2).lt (by have := unhide HBB; omega) (unhide HRN1)
              obtain ⟨f3, hf3⟩ : ∃ F, F = f2 := ⟨_, rfl⟩
              have HRE_f3 : Hid (Re mid b f2 f3) := by rw [hf3]; exact Re.refl _ _ _
              have HSR_f3 : Hid (Sr (ltc cv) f3 mid b) := by
                rw [hf3]
                refine Sr.congr (f := f1) ?_ (fun i h _ => (unhide HRE_f2).out i (by omega))
                exact by have h := (unhide HF).s3; rw [show e = b by have := unhide HBB; omega] at h; exact h
              have HAT' : Hid (At w0 g n Inv f3 w3) := by rw [hf3]; exact unhide HAT
              clear HAT
              have HAT := HAT'
              clear HAT' hf3
              go_wp2
              (try simp only [Exit.inBlock, Exit.then])
              (try go_wp2)
              have hbb := unhide HBB
              refine bodyPost_ret (v := .tuple #[]) (by simp [results, Try.results27, go_sem]) rfl ⟨rfl, f3, unhide HAT, ?_, four_done (unhide HF) (unhide HRE_f2) (unhide HSR_f2) (unhide HRE_f3) (unhide HSR_f3)⟩
              exact ((unhide HR1).trans ((unhide HRE_f2).mono (Nat.le_refl _) (by omega))).trans ((unhide HRE_f3).mono (by omega) (Nat.le_refl _))
          · by_cases p3 : e < b
            · have g1 : (s : Int) < (m : Int) := by omega
              have g2 : (m : Int) < (e : Int) := by omega
              have g3 : ¬ (a : Int) < (s : Int) := by omega
              have g4 : (mid : Int) < (e : Int) := by omega
              have g5 : (e : Int) < (b : Int) := by omega
              have HBB : Hid (a ≤ s ∧ s ≤ m ∧ s ≤ mid ∧ m ≤ e ∧ mid ≤ e ∧ e ≤ b ∧ b ≤ n ∧ a < m ∧ m < b ∧ a < mid ∧ mid < b ∧ mid + m = s + e ∧ s = a ∧ e < b) := ⟨b1, b2, b3, b4, b5, b6, b7, b8, b9, b10, b11, by omega, by first | trivial | omega⟩
              have HC := hide (unhide HROT s e wr (by omega) (by omega) (by omega) (unhide HAT))
              clear hcc b1 b2 b3 b4 b5 b6 b7 b8 b9 b10 b11 he p1 p2 p3
              clear HAT
              rw [hf1] at HC
              clear hf1
              go_wp2_with fail
              (try simp only [Exit.inBlock, Exit.then])
              (try go_wp2_with fail)
              refine (unhide HC).mono ?_
              rintro e_ w2 ⟨rfl, hA2⟩
              have HAT := hide hA2
              clear hA2 HC
              obtain ⟨f2, hf2⟩ : ∃ F, F = f1 := ⟨_, rfl⟩
              have HRE_f2 : Hid (Re a mid f1 f2) := by rw [hf2]; exact Re.refl _ _ _
              have HSR_f2 : Hid (Sr (ltc cv) f2 a mid) := by rw [hf2]; exact by have h := (unhide HF).s2; rw [show s = a by have := unhide HBB; omega] at h; exact h
              have HRN2 : Hid (Rng n f2) := by rw [hf2]; exact unhide HRN1
              have HAT' : Hid (At w0 g n Inv f2 w2) := by rw [hf2]; exact unhide HAT
              clear HAT
              have HAT := HAT'
              clear HAT' hf2
              have HC := hide (unhide HREC mid e b f2 w2 (mg_two (unhide HF) (unhide HRE_f2) (by have := unhide HBB; omega) (unhide HRN2) (by have := unhide HBB; omega) (by have := unhide HBB; omega)) (by have := unhide HBB; omega) (unhide HAT))
              clear HAT
              go_wp2_with fail
              refine (unhide HC).mono ?_
              rintro e_ w4 ⟨rfl, f3, hA2, hr2, hs2⟩
              have HAT := hide hA2
              have HRE_f3 := hide hr2
              have HSR_f3 := hide hs2
              clear hA2 hr2 hs2 HC
              go_wp2
              (try simp only [Exit.inBlock, Exit.then])
              (try go_wp2)
              have hbb := unhide HBB
              refine bodyPost_ret (v := .tuple #[]) (by simp [results, Try.results27, go_sem]) rfl ⟨rfl, f3, unhide HAT, ?_, four_done (unhide HF) (unhide HRE_f2) (unhide HSR_f2) (unhide HRE_f3) (unhide HSR_f3)⟩
              exact ((unhide HR1).trans ((unhide HRE_f2).mono (Nat.le_refl _) (by omega))).trans ((unhide HRE_f3).mono (by omega) (Nat.le_refl _))
            · have g1 : (s : Int) < (m : Int) := by omega
              have g2 : (m : Int) < (e : Int) := by omega
              have g3 : ¬ (a : Int) < (s : Int) := by omega
              have g4 : (mid : Int) < (e : Int) := by omega
              have g5 : ¬ (e : Int) < (b : Int) := by omega
              have HBB : Hid (a ≤ s ∧ s ≤ m ∧ s ≤ mid ∧ m ≤ e ∧ mid ≤ e ∧ e ≤ b ∧ b ≤ n ∧ a < m ∧ m < b ∧ a < mid ∧ mid < b ∧ mid + m = s + e ∧ s = a ∧ e = b) := ⟨b1, b2, b3, b4, b5, b6, b7, b8, b9, b10, b11, by omega, by first | trivial | omega⟩
              have HC := hide (unhide HROT s e wr (by omega) (by omega) (by omega) (unhide HAT))
              clear hcc b1 b2 b3 b4 b5 b6 b7 b8 b9 b10 b11 he p1 p2 p3
              clear HAT
              rw [hf1] at HC
              clear hf1
              go_wp2_with fail
              (try simp only [Exit.inBlock, Exit.then])
              (try go_wp2_with fail)
              refine (unhide HC).mono ?_
              rintro e_ w2 ⟨rfl, hA2⟩
              have HAT := hide hA2
              clear hA2 HC
              obtain ⟨f2, hf2⟩ : ∃ F, F = f1 := ⟨_, rfl⟩
              have HRE_f2 : Hid (Re a mid f1 f2) := by rw [hf2]; exact Re.refl _ _ _
              have HSR_f2 : Hid (Sr (ltc cv) f2 a mid) := by rw [hf2]; exact by have h := (unhide HF).s2; rw [show s = a by have := unhide HBB; omega] at h; exact h
              have HRN2 : Hid (Rng n f2) := by rw [hf2]; exact unhide HRN1
              have HAT' : Hid (At w0 g n Inv f2 w2) := by rw [hf2]; exact unhide HAT
              clear HAT
              have HAT := HAT'
              clear HAT' hf2
              obtain ⟨f3, hf3⟩ : ∃ F, F = f2 := ⟨_, rfl⟩
              have HRE_f3 : Hid (Re mid b f2 f3) := by rw [hf3]; exact Re.refl _ _ _
              have HSR_f3 : Hid (Sr (ltc cv) f3 mid b) := by
                rw [hf3]
                refine Sr.congr (f := f1) ?_ (fun i h _ => (unhide HRE_f2).out i (by omega))
                exact by have h := (unhide HF).s3; rw [show e = b by have := unhide HBB; omega] at h; exact h
              have HAT' : Hid (At w0 g n Inv f3 w2) := by rw [hf3]; exact unhide HAT
              clear HAT
              have HAT := HAT'
              clear HAT' hf3
              go_wp2
              (try simp only [Exit.inBlock, Exit.then])
              (try go_wp2)
              have hbb := unhide HBB
              refine bodyPost_ret (v := .tuple #[]) (by simp [results, Try.results27, go_sem]) rfl ⟨rfl, f3, unhide HAT, ?_, four_done (unhide HF) (unhide HRE_f2) (unhide HSR_f2) (unhide HRE_f3) (unhide HSR_f3)⟩
              exact ((unhide HR1).trans ((unhide HRE_f2).mono (Nat.le_refl _) (by omega))).trans ((unhide HRE_f3).mono (by omega) (Nat.le_refl _))
  · have e8 : ¬ (mid : Int) < (m : Int) := by omega
    have S : Sta a m b mid a m := ⟨k1, k2, Or.inr ⟨by omega, rfl, rfl⟩⟩
    have HS := hide S
    have HHC := hide hc
    have HS0 : Hid (a ≤ m) := by show a ≤ m; omega
    clear CI hge hA M W0 ham hmb hbn hm1 hm2 hd hd' REC S hN hP k1 k2 hc
    go_enter Try.func27, Try.ntmps27
    go_wp2_with fail
    (try rw [e4])
    clear q0 q1 q2 q3 q4 q5 e2 e3 e4 e5 e6 e8
    go_loopw [20, 21] (fun vi vj wr => ∃ (s r : Nat), vi = .int .i64 (s : Int) ∧ vj = .int .i64 (r : Int) ∧ Sea (ltc cv) f (mid + m - 1) a m s r ∧ At w0 g n Inv f wr) (fun vi vj _ => (intOf vj).toNat - (intOf vi).toNat)
    case atStart => exact ⟨a, m, rfl, rfl, sea_start (unhide HS0), unhide HA0⟩
    case round =>
      obtain ⟨s, r, rfl, rfl, hsea, hA⟩ := hrel
      have HAT := hide hA
      have HSEA := hide hsea
      have hs1 := hsea.h1
      have hs2 := hsea.h2
      have hs3 := hsea.h3
      clear hA HA0 hsea
      by_cases hlt : s < r
      · obtain ⟨b1, b2, b3, b4, b5⟩ := sea_rng (unhide HMg) (unhide HS) hs1 (show s < m by omega)
        obtain ⟨b6, b7, b8, b9, b10⟩ := sea_rng (c := r - 1) (unhide HMg) (unhide HS) (by omega) (by omega)
        obtain ⟨t, c, e2, e3, e4, hx1, hx2, e9⟩ := half_all hlt (show r ≤ n by omega) hn
        obtain ⟨c1, c2, c3, c4, c5⟩ := sea_rng (c := c) (unhide HMg) (unhide HS) (by omega) (by omega)
        have e1 : (s : Int) < (r : Int) := by omega
        obtain ⟨x, hx⟩ : ∃ x, P - c = x := ⟨_, rfl⟩
        have hPP := unhide HPP
        have hNN := unhide HNN
        have hXX : x = mid + m - 1 - c := by omega
        have e5 := wsub hx (by omega) (by omega)
        have hxn : x < n := by omega
        have hyn : c < n := by omega
        have f5 : (0 : Int) ≤ (x : Int) := by omega
        have f6 : (x : Int) < (n : Int) := by omega
        have f7 : (0 : Int) ≤ (c : Int) := by omega
        have f8 : (c : Int) < (n : Int) := by omega
        have HXX := hide hXX
        have HX1 := hide hx1
        have HX2 := hide hx2
        have HRR : Hid (r ≤ 100000) := by show r ≤ 100000; omega
        clear hs1 hs2 hs3 hlt b1 b2 b3 b4 b5 b6 b7 b8 b9 b10 c1 c2 c3 c4 c5 hx1 hx2 hx hPP hNN hXX
        obtain ⟨vx, hvx⟩ : ∃ v, f x = v := ⟨_, rfl⟩
        obtain ⟨vy, hvy⟩ : ∃ v, f c = v := ⟨_, rfl⟩
        have HVX := hide hvx
        have HVY := hide hvy
        have HCC : Hid (∀ W, Below wr.heap.size wr W → (fun w' : World => w'.cell? ⟨g, x, none⟩ = some (.int .i64 (vx : Int)) ∧ w'.cell? ⟨g, c, none⟩ = some (.int .i64 (vy : Int))) W) := fun W hW => ⟨by rw [hW.cell (p := ⟨g, x, none⟩) (unhide HAT).own.lt, (unhide HAT).own.cell hxn, hvx], by rw [hW.cell (p := ⟨g, c, none⟩) (unhide HAT).own.lt, (unhide HAT).own.cell hyn, hvy]⟩
        have heg := (unhide HCI).eg
        have HCM : Hid (∃ z : Int, cv vx vy = z ∧ ∀ W, Below wr.heap.size wr W → Calls Try.prog fk (#[.int .i64 (vx : Int), .int .i64 (vy : Int)] ++ bd) W fun e w' => e = .returned (.int .i64 z) ∧ Below W.heap.size W w') := ⟨_, rfl, fun W hW => (unhide HCI).cmp vx vy W (by rw [← hvx]; exact unhide HRN x hxn) (by rw [← hvy]; exact unhide HRN c hyn) ((unhide HCI).keep _ _ (unhide HAT).inv hW)⟩
        obtain ⟨z, hz, hcm⟩ := unhide HCM
        have HZ := hide hz
        have HCA := hide hcm
        clear hvx hvy hz hcm HCM
        by_cases hk : z < 0
        · have dz : decide (z < 0) = true := decide_eq_true hk
          have HK : Hid (ltc cv (f x) (f c) = true) := by unfold ltc; rw [unhide HVX, unhide HVY, unhide HZ]; exact dz
          clear hk
          go_wp2_with fail
          refine wp_region_hold (fun w' : World => w'.cell? ⟨g, x, none⟩ = some (.int .i64 (vx : Int)) ∧ w'.cell? ⟨g, c, none⟩ = some (.int .i64 (vy : Int))) (by kernel_rfl) ?_
          have bd0 : Below wr.heap.size wr wr.drew := (Below.refl _ _).drew
          have hC0 : (fun w' : World => w'.cell? ⟨g, x, none⟩ = some (.int .i64 (vx : Int)) ∧ w'.cell? ⟨g, c, none⟩ = some (.int .i64 (vy : Int))) wr.drew := unhide HCC _ bd0
          refine wpHold_take (i := 0) (v := ?_) rfl (by kernel_rfl) (by kernel_rfl) (by kernel_rfl) (fun _ _ _ h => h) (Or.inl ⟨by rfl, ?_⟩) hC0 ?_
          rotate_left
          · intro w hSw; clear hSw; go_simp; (try with_reducible rfl)
          (try simp only [List.getElem_toArray, List.getElem_cons_succ, List.getElem_cons_zero])
          (try simp only [Act.put, List.setIfInBounds_toArray, List.set_cons_zero, List.set_cons_succ])
          refine wpHold_take (i := 1) (v := ?_) rfl (by kernel_rfl) (by kernel_rfl) (by kernel_rfl) (fun _ _ _ h => h) (Or.inl ⟨by rfl, ?_⟩) hC0 ?_
          rotate_left
          · intro w hSw; clear hSw; go_simp; (try with_reducible rfl)
          (try simp only [List.getElem_toArray, List.getElem_cons_succ, List.getElem_cons_zero])
          (try simp only [Act.put, List.setIfInBounds_toArray, List.set_cons_zero, List.set_cons_succ])
          refine wpHold_take (i := 2) (v := ?_) rfl (by kernel_rfl) (by kernel_rfl) (by kernel_rfl) (fun _ _ _ h => h) (Or.inl ⟨by rfl, ?_⟩) hC0 ?_
          rotate_left
          · intro w hSw; clear hSw; go_simp; (try with_reducible rfl)
          (try simp only [List.getElem_toArray, List.getElem_cons_succ, List.getElem_cons_zero])
          (try simp only [Act.put, List.setIfInBounds_toArray, List.set_cons_zero, List.set_cons_succ])
          refine wpHold_take (i := 3) (v := ?_) rfl (by kernel_rfl) (by kernel_rfl) (by kernel_rfl) (fun _ _ _ h => h) (Or.inl ⟨by rfl, ?_⟩) hC0 ?_
          rotate_left
          · intro w hSw; clear hSw; go_simp; (try with_reducible rfl)
          (try simp only [List.getElem_toArray, List.getElem_cons_succ, List.getElem_cons_zero])
          (try simp only [Act.put, List.setIfInBounds_toArray, List.set_cons_zero, List.set_cons_succ])
          refine wpHold_take (i := 4) (v := ?_) rfl (by kernel_rfl) (by kernel_rfl) (by kernel_rfl) (fun _ _ _ h => h) (Or.inl ⟨by rfl, ?_⟩) hC0 ?_
          rotate_left
          · intro w hSw; clear hSw; go_simp; (try with_reducible rfl)
          (try simp only [List.getElem_toArray, List.getElem_cons_succ, List.getElem_cons_zero])
          (try simp only [Act.put, List.setIfInBounds_toArray, List.set_cons_zero, List.set_cons_succ])
          refine wpHold_take (i := 5) (v := ?_) rfl (by kernel_rfl) (by kernel_rfl) (by kernel_rfl) (fun _ _ _ h => h) (Or.inl ⟨by rfl, ?_⟩) hC0 ?_
          rotate_left
          · intro w hSw; clear hSw; go_simp; (try with_reducible rfl)
          (try simp only [List.getElem_toArray, List.getElem_cons_succ, List.getElem_cons_zero])
          (try simp only [Act.put, List.setIfInBounds_toArray, List.set_cons_zero, List.set_cons_succ])
          refine wpHold_take (i := 6) (v := ?_) rfl (by kernel_rfl) (by kernel_rfl) (by kernel_rfl) (fun _ _ _ h => h) (Or.inl ⟨by rfl, ?_⟩) hC0 ?_
          rotate_left
          · intro w hSw; (try dsimp only at hSw); obtain ⟨z0, z1⟩ := hSw; go_simp; (try with_reducible rfl)
          (try simp only [List.getElem_toArray, List.getElem_cons_succ, List.getElem_cons_zero])
          (try simp only [Act.put, List.setIfInBounds_toArray, List.set_cons_zero, List.set_cons_succ])
          refine wpHold_take (i := 7) (v := ?_) rfl (by kernel_rfl) (by kernel_rfl) (by kernel_rfl) (fun _ _ _ h => h) (Or.inl ⟨by rfl, ?_⟩) hC0 ?_
          rotate_left
          · intro w hSw; clear hSw; go_simp; (try with_reducible rfl)
          (try simp only [List.getElem_toArray, List.getElem_cons_succ, List.getElem_cons_zero])
          (try simp only [Act.put, List.setIfInBounds_toArray, List.set_cons_zero, List.set_cons_succ])
          refine wpHold_take (i := 8) (v := ?_) rfl (by kernel_rfl) (by kernel_rfl) (by kernel_rfl) (fun _ _ _ h => h) (Or.inl ⟨by rfl, ?_⟩) hC0 ?_
          rotate_left
          · intro w hSw; clear hSw; go_simp; (try with_reducible rfl)
          (try simp only [List.getElem_toArray, List.getElem_cons_succ, List.getElem_cons_zero])
          (try simp only [Act.put, List.setIfInBounds_toArray, List.set_cons_zero, List.set_cons_succ])
          refine wpHold_take (i := 9) (v := ?_) rfl (by kernel_rfl) (by kernel_rfl) (by kernel_rfl) (fun _ _ _ h => h) (Or.inl ⟨by rfl, ?_⟩) hC0 ?_
          rotate_left
          · intro w hSw; clear hSw; go_simp; (try with_reducible rfl)
          (try simp only [List.getElem_toArray, List.getElem_cons_succ, List.getElem_cons_zero])
          (try simp only [Act.put, List.setIfInBounds_toArray, List.set_cons_zero, List.set_cons_succ])
          refine wpHold_take (i := 10) (v := ?_) rfl (by kernel_rfl) (by kernel_rfl) (by kernel_rfl) (fun _ _ _ h => h) (Or.inl ⟨by rfl, ?_⟩) hC0 ?_
          rotate_left
          · intro w hSw; (try dsimp only at hSw); obtain ⟨z0, z1⟩ := hSw; go_simp; (try with_reducible rfl)
          (try simp only [List.getElem_toArray, List.getElem_cons_succ, List.getElem_cons_zero])
          (try simp only [Act.put, List.setIfInBounds_toArray, List.set_cons_zero, List.set_cons_succ])
          refine wpHold_one (k := 11) (by kernel_rfl) rfl (fun K hK => ?_)
          (try simp only [List.getElem_toArray, List.getElem_cons_succ, List.getElem_cons_zero])
          go_simp
          refine (unhide HCA _ bd0).mono ?_
          rintro e xw_1 ⟨rfl, hb_1⟩
          have cc_1 := below_step bd0 hb_1
          have hC_1 : (fun w' : World => w'.cell? ⟨g, x, none⟩ = some (.int .i64 (vx : Int)) ∧ w'.cell? ⟨g, c, none⟩ = some (.int .i64 (vy : Int))) xw_1 := unhide HCC _ cc_1
          refine hK.out _ _ hC_1 ?_
          clear hK K
          (try simp only [Act.put, List.setIfInBounds_toArray, List.set_cons_zero, List.set_cons_succ])
          refine wpHold_take (i := 12) (v := ?_) rfl (by kernel_rfl) (by kernel_rfl) (by kernel_rfl) (fun _ _ _ h => h) (Or.inl ⟨by rfl, ?_⟩) hC_1 ?_
          rotate_left
          · intro w hSw; clear hSw; go_simp; (try with_reducible rfl)
          (try simp only [List.getElem_toArray, List.getElem_cons_succ, List.getElem_cons_zero])
          (try simp only [Act.put, List.setIfInBounds_toArray, List.set_cons_zero, List.set_cons_succ])
          refine wpHold_take (i := 13) (v := ?_) rfl (by kernel_rfl) (by kernel_rfl) (by kernel_rfl) (fun _ _ _ h => h) (Or.inl ⟨by rfl, ?_⟩) hC_1 ?_
          rotate_left
          · intro w hSw; clear hSw; go_simp; (try with_reducible rfl)
          (try simp only [List.getElem_toArray, List.getElem_cons_succ, List.getElem_cons_zero])
          (try simp only [Act.put, List.setIfInBounds_toArray, List.set_cons_zero, List.set_cons_succ])
          refine wpHold_done (by kernel_rfl) ?_ _
          have HBW := hide cc_1
          clear hC0 hC_1 cc_1 hb_1 bd0
          clear HCC HCA HVX HVY dz
          go_wp2_with fail
          have k1 := unhide HX1
          have k2 := unhide HX2
          have k3 := unhide HK
          rw [unhide HXX] at k3
          exact ⟨⟨s, c, rfl, by go_num, sea_hi (unhide HW) (unhide HMg) (unhide HS) (unhide HSEA) k1 k2 k3, (unhide HAT).keep (unhide HCI) (unhide HBW)⟩, by simp [intOf]; omega⟩
        · have dz : decide (z < 0) = false := decide_eq_false hk
          have HK : Hid (ltc cv (f x) (f c) = false) := by unfold ltc; rw [unhide HVX, unhide HVY, unhide HZ]; exact dz
          clear hk
          go_wp2_with fail
          refine wp_region_hold (fun w' : World => w'.cell? ⟨g, x, none⟩ = some (.int .i64 (vx : Int)) ∧ w'.cell? ⟨g, c, none⟩ = some (.int .i64 (vy : Int))) (by kernel_rfl) ?_
          have bd0 : Below wr.heap.size wr wr.drew := (Below.refl _ _).drew
          have hC0 : (fun w' : World => w'.cell? ⟨g, x, none⟩ = some (.int .i64 (vx : Int)) ∧ w'.cell? ⟨g, c, none⟩ = some (.int .i64 (vy : Int))) wr.drew := unhide HCC _ bd0
          refine wpHold_take (i := 0) (v := ?_) rfl (by kernel_rfl) (by kernel_rfl) (by kernel_rfl) (fun _ _ _ h => h) (Or.inl ⟨by rfl, ?_⟩) hC0 ?_
          rotate_left
          · intro w hSw; clear hSw; go_simp; (try with_reducible rfl)
          (try simp only [List.getElem_toArray, List.getElem_cons_succ, List.getElem_cons_zero])
          (try simp only [Act.put, List.setIfInBounds_toArray, List.set_cons_zero, List.set_cons_succ])
          refine wpHold_take (i := 1) (v := ?_) rfl (by kernel_rfl) (by kernel_rfl) (by kernel_rfl) (fun _ _ _ h => h) (Or.inl ⟨by rfl, ?_⟩) hC0 ?_
          rotate_left
          · intro w hSw; clear hSw; go_simp; (try with_reducible rfl)
          (try simp only [List.getElem_toArray, List.getElem_cons_succ, List.getElem_cons_zero])
          (try simp only [Act.put, List.setIfInBounds_toArray, List.set_cons_zero, List.set_cons_succ])
          refine wpHold_take (i := 2) (v := ?_) rfl (by kernel_rfl) (by kernel_rfl) (by kernel_rfl) (fun _ _ _ h => h) (Or.inl ⟨by rfl, ?_⟩) hC0 ?_
          rotate_left
          · intro w hSw; clear hSw; go_simp; (try with_reducible rfl)
          (try simp only [List.getElem_toArray, List.getElem_cons_succ, List.getElem_cons_zero])
          (try simp only [Act.put, List.setIfInBounds_toArray, List.set_cons_zero, List.set_cons_succ])
          refine wpHold_take (i := 3) (v := ?_) rfl (by kernel_rfl) (by kernel_rfl) (by kernel_rfl) (fun _ _ _ h => h) (Or.inl ⟨by rfl, ?_⟩) hC0 ?_
          rotate_left
          · intro w hSw; clear hSw; go_simp; (try with_reducible rfl)
          (try simp only [List.getElem_toArray, List.getElem_cons_succ, List.getElem_cons_zero])
          (try simp only [Act.put, List.setIfInBounds_toArray, List.set_cons_zero, List.set_cons_succ])
          refine wpHold_take (i := 4) (v := ?_) rfl (by kernel_rfl) (by kernel_rfl) (by kernel_rfl) (fun _ _ _ h => h) (Or.inl ⟨by rfl, ?_⟩) hC0 ?_
          rotate_left
          · intro w hSw; clear hSw; go_simp; (try with_reducible rfl)
          (try simp only [List.getElem_toArray, List.getElem_cons_succ, List.getElem_cons_zero])
          (try simp only [Act.put, List.setIfInBounds_toArray, List.set_cons_zero, List.set_cons_succ])
          refine wpHold_take (i := 5) (v := ?_) rfl (by kernel_rfl) (by kernel_rfl) (by kernel_rfl) (fun _ _ _ h => h) (Or.inl ⟨by rfl, ?_⟩) hC0 ?_
          rotate_left
          · intro w hSw; clear hSw; go_simp; (try with_reducible rfl)
          (try simp only [List.getElem_toArray, List.getElem_cons_succ, List.getElem_cons_zero])
          (try simp only [Act.put, List.setIfInBounds_toArray, List.set_cons_zero, List.set_cons_succ])
          refine wpHold_take (i := 6) (v := ?_) rfl (by kernel_rfl) (by kernel_rfl) (by kernel_rfl) (fun _ _ _ h => h) (Or.inl ⟨by rfl, ?_⟩) hC0 ?_
          rotate_left
          · intro w hSw; (try dsimp only at hSw); obtain ⟨z0, z1⟩ := hSw; go_simp; (try with_reducible rfl)
          (try simp only [List.getElem_toArray, List.getElem_cons_succ, List.getElem_cons_zero])
          (try simp only [Act.put, List.setIfInBounds_toArray, List.set_cons_zero, List.set_cons_succ])
          refine wpHold_take (i := 7) (v := ?_) rfl (by kernel_rfl) (by kernel_rfl) (by kernel_rfl) (fun _ _ _ h => h) (Or.inl ⟨by rfl, ?_⟩) hC0 ?_
          rotate_left
          · intro w hSw; clear hSw; go_simp; (try with_reducible rfl)
          (try simp only [List.getElem_toArray, List.getElem_cons_succ, List.getElem_cons_zero])
          (try simp only [Act.put, List.setIfInBounds_toArray, List.set_cons_zero, List.set_cons_succ])
          refine wpHold_take (i := 8) (v := ?_) rfl (by kernel_rfl) (by kernel_rfl) (by kernel_rfl) (fun _ _ _ h => h) (Or.inl ⟨by rfl, ?_⟩) hC0 ?_
          rotate_left
          · intro w hSw; clear hSw; go_simp; (try with_reducible rfl)
          (try simp only [List.getElem_toArray, List.getElem_cons_succ, List.getElem_cons_zero])
          (try simp only [Act.put, List.setIfInBounds_toArray, List.set_cons_zero, List.set_cons_succ])
          refine wpHold_take (i := 9) (v := ?_) rfl (by kernel_rfl) (by kernel_rfl) (by kernel_rfl) (fun _ _ _ h => h) (Or.inl ⟨by rfl, ?_⟩) hC0 ?_
          rotate_left
          · intro w hSw; clear hSw; go_simp; (try with_reducible rfl)
          (try simp only [List.getElem_toArray, List.getElem_cons_succ, List.getElem_cons_zero])
          (try simp only [Act.put, List.setIfInBounds_toArray, List.set_cons_zero, List.set_cons_succ])
          refine wpHold_take (i := 10) (v := ?_) rfl (by kernel_rfl) (by kernel_rfl) (by kernel_rfl) (fun _ _ _ h => h) (Or.inl ⟨by rfl, ?_⟩) hC0 ?_
          rotate_left
          · intro w hSw; (try dsimp only at hSw); obtain ⟨z0, z1⟩ := hSw; go_simp; (try with_reducible rfl)
          (try simp only [List.getElem_toArray, List.getElem_cons_succ, List.getElem_cons_zero])
          (try simp only [Act.put, List.setIfInBounds_toArray, List.set_cons_zero, List.set_cons_succ])
          refine wpHold_one (k := 11) (by kernel_rfl) rfl (fun K hK => ?_)
          (try simp only [List.getElem_toArray, List.getElem_cons_succ, List.getElem_cons_zero])
          go_simp
          refine (unhide HCA _ bd0).mono ?_
          rintro e xw_1 ⟨rfl, hb_1⟩
          have cc_1 := below_step bd0 hb_1
          have hC_1 : (fun w' : World => w'.cell? ⟨g, x, none⟩ = some (.int .i64 (vx : Int)) ∧ w'.cell? ⟨g, c, none⟩ = some (.int .i64 (vy : Int))) xw_1 := unhide HCC _ cc_1
          refine hK.out _ _ hC_1 ?_
          clear hK K
          (try simp only [Act.put, List.setIfInBounds_toArray, List.set_cons_zero, List.set_cons_succ])
          refine wpHold_take (i := 12) (v := ?_) rfl (by kernel_rfl) (by kernel_rfl) (by kernel_rfl) (fun _ _ _ h => h) (Or.inl ⟨by rfl, ?_⟩) hC_1 ?_
          rotate_left
          · intro w hSw; clear hSw; go_simp; (try with_reducible rfl)
          (try simp only [List.getElem_toArray, List.getElem_cons_succ, List.getElem_cons_zero])
          (try simp only [Act.put, List.setIfInBounds_toArray, List.set_cons_zero, List.set_cons_succ])
          refine wpHold_take (i := 13) (v := ?_) rfl (by kernel_rfl) (by kernel_rfl) (by kernel_rfl) (fun _ _ _ h => h) (Or.inl ⟨by rfl, ?_⟩) hC_1 ?_
          rotate_left
          · intro w hSw; clear hSw; go_simp; (try with_reducible rfl)
          (try simp only [List.getElem_toArray, List.getElem_cons_succ, List.getElem_cons_zero])
          (try simp only [Act.put, List.setIfInBounds_toArray, List.set_cons_zero, List.set_cons_succ])
          refine wpHold_done (by kernel_rfl) ?_ _
          have HBW := hide cc_1
          clear hC0 hC_1 cc_1 hb_1 bd0
          clear HCC HCA HVX HVY dz
          go_wp2_with fail
          have k1 := unhide HX1
          have k2 := unhide HX2
          have k3 := unhide HK
          rw [unhide HXX] at k3
          exact ⟨⟨c + 1, r, by go_num, rfl, sea_lo (unhide HW) (unhide HMg) (unhide HS) (unhide HSEA) k1 k2 k3, (unhide HAT).keep (unhide HCI) (unhide HBW)⟩, by simp [intOf]; omega⟩
      · obtain rfl : s = r := by omega
        have e1 : ¬ (s : Int) < (s : Int) := by omega
        obtain ⟨b1, b2, b3, b4, b5, b6, b7, b8, b9, b10, b11⟩ := sea_end (unhide HMg) (unhide HS) (unhide HSEA)
        have F := four (unhide HW) (unhide HMg) (unhide HS) (unhide HSEA)
        have rr := Re.rot f b2 b4
        obtain ⟨e, he⟩ : ∃ e, mid + m - s = e := ⟨_, rfl⟩
        rw [he] at F rr b4 b5 b6
        have hNN := unhide HNN
        have hcc := unhide HHC
        have e5 := wsub (show N - s = e by omega) (by omega) (by omega)
        have R1 : Re a b f (rot f s m e) := rr.mono (by omega) (by omega)
        obtain ⟨f1, hf1⟩ : ∃ F, rot f s m e = F := ⟨_, rfl⟩
        rw [hf1] at F R1
        have HF := hide F
        have HR1 := hide R1
        have HF1 := hide hf1
        have HRN1 := hide (R1.lt b7 (unhide HRN))
        clear F rr R1 hs1 hs2 hs3 hlt hNN
        by_cases p1 : s = m
        · by_cases p2 : m < mid
          · have g1 : ¬ (s : Int) < (m : Int) := by omega
            have g2 : (a : Int) < (s : Int) := by omega
            have g3 : (s : Int) < (mid : Int) := by omega
            have g4 : ¬ (mid : Int) < (e : Int) := by omega
            have HBB : Hid (a ≤ s ∧ s ≤ m ∧ s ≤ mid ∧ m ≤ e ∧ mid ≤ e ∧ e ≤ b ∧ b ≤ n ∧ a < m ∧ m < b ∧ a < mid ∧ mid < b ∧ mid + m = s + e ∧ s = m ∧ m < mid) := ⟨b1, b2, b3, b4, b5, b6, b7, b8, b9, b10, b11, by omega, by first | trivial | omega⟩
            have HAT' : Hid (At w0 g n Inv f1 wr) := by rw [← hf1, rot_none f (by omega)]; exact unhide HAT
            clear HAT
            have HAT := HAT'
            clear HAT' hf1
            clear hcc b1 b2 b3 b4 b5 b6 b7 b8 b9 b10 b11 he p1 p2
            have HC := hide (unhide HREC a s mid f1 wr (⟨by have := unhide HBB; omega, by have := unhide HBB; omega, by have := unhide HBB; omega, unhide HRN1, (unhide HF).s1, (unhide HF).s2, (unhide HF).t1⟩) (by have := unhide HBB; omega) (unhide HAT))
            clear HAT
            go_wp2_with fail
            (try simp only [Exit.inBlock, Exit.then])
            (try go_wp2_with fail)
            refine (unhide HC).mono ?_
            rintro e_ w3 ⟨rfl, f2, hA2, hr2, hs2⟩
            have HAT := hide hA2
            have HRE_f2 := hide hr2
            have HSR_f2 := hide hs2
            clear hA2 hr2 hs2 HC
            have HRN2 : Hid (Rng n f2) := (unhide HRE_f2).lt (by have := unhide HBB; omega) (unhide HRN1)
            obtain ⟨f3, hf3⟩ : ∃ F, F = f2 := ⟨_, rfl⟩
            have HRE_f3 : Hid (Re mid b f2 f3) := by rw [hf3]; exact Re.refl _ _ _
            have HSR_f3 : Hid (Sr (ltc cv) f3 mid b) := by
              rw [hf3]
              refine Sr.congr (f := f1) ?_ (fun i h _ => (unhide HRE_f2).out i (by omega))
              exact by have h := (unhide HF).s4; rw [show e = mid by have := unhide HBB; omega] at h; exact h
            have HAT' : Hid (At w0 g n Inv f3 w3) := by rw [hf3]; exact unhide HAT
            clear HAT
            have HAT := HAT'
            clear HAT' hf3
            go_wp2
            (try simp only [Exit.inBlock, Exit.then])
            (try go_wp2)
            have hbb := unhide HBB
            refine bodyPost_ret (v := .tuple #[]) (by simp [results, Try.results27, go_sem]) rfl ⟨rfl, f3, unhide HAT, ?_, four_done (unhide HF) (unhide HRE_f2) (unhide HSR_f2) (unhide HRE_f3) (unhide HSR_f3)⟩
            exact ((unhide HR1).trans ((unhide HRE_f2).mono (Nat.le_refl _) (by omega))).trans ((unhide HRE_f3).mono (by omega) (Nat.le_refl _))
          · have g1 : ¬ (s : Int) < (m : Int) := by omega
            have g2 : (a : Int) < (s : Int) := by omega
            have g3 : ¬ (s : Int) < (mid : Int) := by omega
            have g4 : ¬ (mid : Int) < (e : Int) := by omega
            have HBB : Hid (a ≤ s ∧ s ≤ m ∧ s ≤ mid ∧ m ≤ e ∧ mid ≤ e ∧ e ≤ b ∧ b ≤ n ∧ a < m ∧ m < b ∧ a < mid ∧ mid < b ∧ mid + m = s + e ∧ s = m ∧ m = mid) := ⟨b1, b2, b3, b4, b5, b6, b7, b8, b9, b10, b11, by omega, by first | trivial | omega⟩
            have HAT' : Hid (At w0 g n Inv f1 wr) := by rw [← hf1, rot_none f (by omega)]; exact unhide HAT
            clear HAT
            have HAT := HAT'
            clear HAT' hf1
            clear hcc b1 b2 b3 b4 b5 b6 b7 b8 b9 b10 b11 he p1 p2
            obtain ⟨f2, hf2⟩ : ∃ F, F = f1 := ⟨_, rfl⟩
            have HRE_f2 : Hid (Re a mid f1 f2) := by rw [hf2]; exact Re.refl _ _ _
            have HSR_f2 : Hid (Sr (ltc cv) f2 a mid) := by rw [hf2]; exact by have h := (unhide HF).s1; rw [show s = mid by have := unhide HBB; omega] at h; exact h
            have HRN2 : Hid (Rng n f2) := by rw [hf2]; exact unhide HRN1
            have HAT' : Hid (At w0 g n Inv f2 wr) := by rw [hf2]; exact unhide HAT
            clear HAT
            have HAT := HAT'
            clear HAT' hf2
            obtain ⟨f3, hf3⟩ : ∃ F, F = f2 := ⟨_, rfl⟩
            have HRE_f3 : Hid (Re mid b f2 f3) := by rw [hf3]; exact Re.refl _ _ _
            have HSR_f3 : Hid (Sr (ltc cv) f3 mid b) := by
              rw [hf3]
              refine Sr.congr (f := f1) ?_ (fun i h _ => (unhide HRE_f2).out i (by omega))
              exact by have h := (unhide HF).s4; rw [show e = mid by have := unhide HBB; omega] at h; exact h
            have HAT' : Hid (At w0 g n Inv f3 wr) := by rw [hf3]; exact unhide HAT
            clear HAT
            have HAT := HAT'
            clear HAT' hf3
            go_wp2
            (try simp only [Exit.inBlock, Exit.then])
            (try go_wp2)
            have hbb := unhide HBB
            refine bodyPost_ret (v := .tuple #[]) (by simp [results, Try.results27, go_sem]) rfl ⟨rfl, f3, unhide HAT, ?_, four_done (unhide HF) (unhide HRE_f2) (unhide HSR_f2) (unhide HRE_f3) (unhide HSR_f3)⟩
            exact ((unhide HR1).trans ((unhide HRE_f2).mono (Nat.le_refl _) (by omega))).trans ((unhide HRE_f3).mono (by omega) (Nat.le_refl _))
        · by_cases p2 : a < s
          · by_cases p3 : e < b
            · have g1 : (s : Int) < (m : Int) := by omega
              have g2 : (m : Int) < (e : Int) := by omega
              have g3 : (a : Int) < (s : Int) := by omega
              have g4 : (s : Int) < (mid : Int) := by omega
              have g5 : (mid : Int) < (e : Int) := by omega
              have g6 : (e : Int) < (b : Int) := by omega
              have HBB : Hid (a ≤ s ∧ s ≤ m ∧ s ≤ mid ∧ m ≤ e ∧ mid ≤ e ∧ e ≤ b ∧ b ≤ n ∧ a < m ∧ m < b ∧ a < mid ∧ mid < b ∧ mid + m = s + e ∧ a < s ∧ e < b) := ⟨b1, b2, b3, b4, b5, b6, b7, b8, b9, b10, b11, by omega, by first | trivial | omega⟩
              have HC := hide (unhide HROT s e wr (by omega) (by omega) (by omega) (unhide HAT))
              clear hcc b1 b2 b3 b4 b5 b6 b7 b8 b9 b10 b11 he p1 p2 p3
              clear HAT
              rw [hf1] at HC
              clear hf1
              go_wp2_with fail
              (try simp only [Exit.inBlock, Exit.then])
              (try go_wp2_with fail)
              refine (unhide HC).mono ?_
              rintro e_ w2 ⟨rfl, hA2⟩
              have HAT := hide hA2
              clear hA2 HC
              have HC := hide (unhide HREC a s mid f1 w2 (⟨by have := unhide HBB; omega, by have := unhide HBB; omega, by have := unhide HBB; omega, unhide HRN1, (unhide HF).s1, (unhide HF).s2, (unhide HF).t1⟩) (by have := unhide HBB; omega) (unhide HAT))
              clear HAT
              go_wp2_with fail
              refine (unhide HC).mono ?_
              rintro e_ w3 ⟨rfl, f2, hA2, hr2, hs2⟩
              have HAT := hide hA2
              have HRE_f2 := hide hr2
              have HSR_f2 := hide hs2
              clear hA2 hr2 hs2 HC
              have HRN2 : Hid (Rng n f2) := (unhide HRE_f2).lt (by have := unhide HBB; omega) (unhide HRN1)
              have HC := hide (unhide HREC mid e b f2 w3 (mg_two (unhide HF) (unhide HRE_f2) (by have := unhide HBB; omega) (unhide HRN2) (by have := unhide HBB; omega) (by have := unhide HBB; omega)) (by have := unhide HBB; omega) (unhide HAT))
              clear HAT
              go_wp2_with fail
              refine (unhide HC).mono ?_
              rintro e_ w4 ⟨rfl, f3, hA2, hr2, hs2⟩
              have HAT := hide hA2
              have HRE_f3 := hide hr2
              have HSR_f3 := hide hs2
              clear hA2 hr2 hs2 HC
              go_wp2
              (try simp only [Exit.inBlock, Exit.then])
              (try go_wp2)
              have hbb := unhide HBB
              refine bodyPost_ret (v := .tuple #[]) (by simp [results, Try.results27, go_sem]) rfl ⟨rfl, f3, unhide HAT, ?_, four_done (unhide HF) (unhide HRE_f2) (unhide HSR_f2) (unhide HRE_f3) (unhide HSR_f3)⟩
              exact ((unhide HR1).trans ((unhide HRE_f2).mono (Nat.le_refl _) (by omega))).trans ((unhide HRE_f3).mono (by omega) (Nat.le_refl _))
            · have g1 : (s : Int) < (m : Int) := by omega
              have g2 : (m : Int) < (e : Int) := by omega
              have g3 : (a : Int) < (s : Int) := by omega
              have g4 : (s : Int) < (mid : Int) := by omega
              have g5 : (mid : Int) < (e : Int) := by omega
              have g6 : ¬ (e : Int) < (b : Int) := by omega
              have HBB : Hid (a ≤ s ∧ s ≤ m ∧ s ≤ mid ∧ m ≤ e ∧ mid ≤ e ∧ e ≤ b ∧ b ≤ n ∧ a < m ∧ m < b ∧ a < mid ∧ mid < b ∧ mid + m = s + e ∧ a < s ∧ e = b) := ⟨b1, b2, b3, b4, b5, b6, b7, b8, b9, b10, b11, by omega, by first | trivial | omega⟩
              have HC := hide (unhide HROT s e wr (by omega) (by omega) (by omega) (unhide HAT))
              clear hcc b1 b2 b3 b4 b5 b6 b7 b8 b9 b10 b11 he p1 p2 p3
              clear HAT
              rw [hf1] at HC
              clear hf1
              go_wp2_with fail
              (try simp only [Exit.inBlock, Exit.then])
              (try go_wp2_with fail)
              refine (unhide HC).mono ?_
              rintro e_ w2 ⟨rfl, hA2⟩
              have HAT := hide hA2
              clear hA2 HC
              have HC := hide (unhide HREC a s mid f1 w2 (⟨by have := unhide HBB; omega, by have := unhide HBB; omega, by have := unhide HBB; omega, unhide HRN1, (unhide HF).s1, (unhide HF).s2, (unhide HF).t1⟩) (by have := unhide HBB; omega) (unhide HAT))
              clear HAT
              go_wp2_with fail
              refine (unhide HC).mono ?_
              rintro e_ w3 ⟨rfl, f2, hA2, hr2, hs2⟩
              have HAT := hide hA2
              have HRE_f2 := hide hr2
              have HSR_f2 := hide hs2
              clear hA2 hr2 hs2 HC
              have HRN2 : Hid (Rng n f2) := (unhide HRE_f2).lt (by have := unhide HBB; omega) (unhide HRN1)
              obtain ⟨f3, hf3⟩ : ∃ F, F = f2 := ⟨_, rfl⟩
              have HRE_f3 : Hid (Re mid b f2 f3) := by rw [hf3]; exact Re.refl _ _ _
              have HSR_f3 : Hid (Sr (ltc cv) f3 mid b) := by
                rw [hf3]
                refine Sr.congr (f := f1) ?_ (fun i h _ => (unhide HRE_f2).out i (by omega))
                exact by have h := (unhide HF).s3; rw [show e = b by have := unhide HBB; omega] at h; exact h
              have HAT' : Hid (At w0 g n Inv f3 w3) := by rw [hf3]; exact unhide HAT
              clear HAT
              have HAT := HAT'
              clear HAT' hf3
              go_wp2
              (try simp only [Exit.inBlock, Exit.then])
              (try go_wp2)
              have hbb := unhide HBB
              refine bodyPost_ret (v := .tuple #[]) (by simp [results, Try.results27, go_sem]) rfl ⟨rfl, f3, unhide HAT, ?_, four_done (unhide HF) (unhide HRE_f2) (unhide HSR_f2) (unhide HRE_f3) (unhide HSR_f3)⟩
              exact ((unhide HR1).trans ((unhide HRE_f2).mono (Nat.le_refl _) (by omega))).trans ((unhide HRE_f3).mono (by omega) (Nat.le_refl _))
          · by_cases p3 : e < b
            · have g1 : (s : Int) < (m : Int) := by omega
              have g2 : (m : Int) < (e : Int) := by omega
              have g3 : ¬ (a : Int) < (s : Int) := by omega
              have g4 : (mid : Int) < (e : Int) := by omega
              have g5 : (e : Int) < (b : Int) := by omega
              have HBB : Hid (a ≤ s ∧ s ≤ m ∧ s ≤ mid ∧ m ≤ e ∧ mid ≤ e ∧ e ≤ b ∧ b ≤ n ∧ a < m ∧ m < b ∧ a < mid ∧ mid < b ∧ mid + m = s + e ∧ s = a ∧ e < b) := ⟨b1, b2, b3, b4, b5, b6, b7, b8, b9, b10, b11, by omega, by first | trivial | omega⟩
              have HC := hide (unhide HROT s e wr (by omega) (by omega) (by omega) (unhide HAT))
              clear hcc b1 b2 b3 b4 b5 b6 b7 b8 b9 b10 b11 he p1 p2 p3
              clear HAT
              rw [hf1] at HC
              clear hf1
              go_wp2_with fail
              (try simp only [Exit.inBlock, Exit.then])
              (try go_wp2_with fail)
              refine (unhide HC).mono ?_
              rintro e_ w2 ⟨rfl, hA2⟩
              have HAT := hide hA2
              clear hA2 HC
              obtain ⟨f2, hf2⟩ : ∃ F, F = f1 := ⟨_, rfl⟩
              have HRE_f2 : Hid (Re a mid f1 f2) := by rw [hf2]; exact Re.refl _ _ _
              have HSR_f2 : Hid (Sr (ltc cv) f2 a mid) := by rw [hf2]; exact by have h := (unhide HF).s2; rw [show s = a by have := unhide HBB; omega] at h; exact h
              have HRN2 : Hid (Rng n f2) := by rw [hf2]; exact unhide HRN1
              have HAT' : Hid (At w0 g n Inv f2 w2) := by rw [hf2]; exact unhide HAT
              clear HAT
              have HAT := HAT'
              clear HAT' hf2
              have HC := hide (unhide HREC mid e b f2 w2 (mg_two (unhide HF) (unhide HRE_f2) (by have := unhide HBB; omega) (unhide HRN2) (by have := unhide HBB; omega) (by have := unhide HBB; omega)) (by have := unhide HBB; omega) (unhide HAT))
              clear HAT
              go_wp2_with fail
              refine (unhide HC).mono ?_
              rintro e_ w4 ⟨rfl, f3, hA2, hr2, hs2⟩
              have HAT := hide hA2
              have HRE_f3 := hide hr2
              have HSR_f3 := hide hs2
              clear hA2 hr2 hs2 HC
              go_wp2
              (try simp only [Exit.inBlock, Exit.then])
              (try go_wp2)
              have hbb := unhide HBB
              refine bodyPost_ret (v := .tuple #[]) (by simp [results, Try.results27, go_sem]) rfl ⟨rfl, f3, unhide HAT, ?_, four_done (unhide HF) (unhide HRE_f2) (unhide HSR_f2) (unhide HRE_f3) (unhide HSR_f3)⟩
              exact ((unhide HR1).trans ((unhide HRE_f2).mono (Nat.le_refl _) (by omega))).trans ((unhide HRE_f3).mono (by omega) (Nat.le_refl _))
            · have g1 : (s : Int) < (m : Int) := by omega
              have g2 : (m : Int) < (e : Int) := by omega
              have g3 : ¬ (a : Int) < (s : Int) := by omega
              have g4 : (mid : Int) < (e : Int) := by omega
              have g5 : ¬ (e : Int) < (b : Int) := by omega
              have HBB : Hid (a ≤ s ∧ s ≤ m ∧ s ≤ mid ∧ m ≤ e ∧ mid ≤ e ∧ e ≤ b ∧ b ≤ n ∧ a < m ∧ m < b ∧ a < mid ∧ mid < b ∧ mid + m = s + e ∧ s = a ∧ e = b) := ⟨b1, b2, b3, b4, b5, b6, b7, b8, b9, b10, b11, by omega, by first | trivial | omega⟩
              have HC := hide (unhide HROT s e wr (by omega) (by omega) (by omega) (unhide HAT))
              clear hcc b1 b2 b3 b4 b5 b6 b7 b8 b9 b10 b11 he p1 p2 p3
              clear HAT
              rw [hf1] at HC
              clear hf1
              go_wp2_with fail
              (try simp only [Exit.inBlock, Exit.then])
              (try go_wp2_with fail)
              refine (unhide HC).mono ?_
              rintro e_ w2 ⟨rfl, hA2⟩
              have HAT := hide hA2
              clear hA2 HC
              obtain ⟨f2, hf2⟩ : ∃ F, F = f1 := ⟨_, rfl⟩
              have HRE_f2 : Hid (Re a mid f1 f2) := by rw [hf2]; exact Re.refl _ _ _
              have HSR_f2 : Hid (Sr (ltc cv) f2 a mid) := by rw [hf2]; exact by have h := (unhide HF).s2; rw [show s = a by have := unhide HBB; omega] at h; exact h
              have HRN2 : Hid (Rng n f2) := by rw [hf2]; exact unhide HRN1
              have HAT' : Hid (At w0 g n Inv f2 w2) := by rw [hf2]; exact unhide HAT
              clear HAT
              have HAT := HAT'
              clear HAT' hf2
              obtain ⟨f3, hf3⟩ : ∃ F, F = f2 := ⟨_, rfl⟩
              have HRE_f3 : Hid (Re mid b f2 f3) := by rw [hf3]; exact Re.refl _ _ _
              have HSR_f3 : Hid (Sr (ltc cv) f3 mid b) := by
                rw [hf3]
                refine Sr.congr (f := f1) ?_ (fun i h _ => (unhide HRE_f2).out i (by omega))
                exact by have h := (unhide HF).s3; rw [show e = b by have := unhide HBB; omega] at h; exact h
              have HAT' : Hid (At w0 g n Inv f3 w2) := by rw [hf3]; exact unhide HAT
              clear HAT
              have HAT := HAT'
              clear HAT' hf3
              go_wp2
              (try simp only [Exit.inBlock, Exit.then])
              (try go_wp2)
              have hbb := unhide HBB
              refine bodyPost_ret (v := .tuple #[]) (by simp [results, Try.results27, go_sem]) rfl ⟨rfl, f3, unhide HAT, ?_, four_done (unhide HF) (unhide HRE_f2) (unhide HSR_f2) (unhide HRE_f3) (unhide HSR_f3)⟩
              exact ((unhide HR1).trans ((unhide HRE_f2).mono (Nat.le_refl _) (by omega))).trans ((unhide HRE_f3).mono (by omega) (Nat.le_refl _))

end Go.Proofs.Ytbbmhidnakghfaa
