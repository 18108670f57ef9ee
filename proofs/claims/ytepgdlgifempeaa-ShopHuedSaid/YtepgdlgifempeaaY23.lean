/- Hu: the law. -/
import Derived.Test.YtepgdlgifempeaaY22
import Derived.Test.YtepgdlgifempeaaY4
namespace Go.Proofs.Ytepgdlgifempeaa
open Go.RowKit Go.Sort Stb Hux

/-- When all is done. -/
def eT (T : Nat → Nat) : Nat → Nat
  | 0 => 0
  | k + 1 => max (eT T k) (T k + 1)
theorem eT_ge (T : Nat → Nat) : ∀ k i, i < k → T i + 1 ≤ eT T k
  | k + 1, i, h => by
    show T i + 1 ≤ max (eT T k) (T k + 1)
    rcases Nat.lt_or_ge i k with c | c
    · have := eT_ge T k i c; omega
    · rw [show i = k by omega]; omega
theorem eT_is (T : Nat → Nat) : ∀ k, eT T k = 0 ∨ ∃ i, i < k ∧ eT T k = T i + 1
  | 0 => Or.inl rfl
  | k + 1 => by
    have e : eT T (k + 1) = max (eT T k) (T k + 1) := rfl
    by_cases c : eT T k ≤ T k + 1
    · exact Or.inr ⟨k, by omega, by rw [e]; omega⟩
    · rcases eT_is T k with h | ⟨i, h1, h2⟩
      · exact Or.inl (by rw [e]; omega)
      · exact Or.inr ⟨i, by omega, by rw [e]; omega⟩
/-- What the law wants of the times. -/
structure HuOk (n M : Nat) (nx : Nat → Int) (T : Nat → Nat) : Prop where
  m0 : 0 < M
  m20 : M ≤ 20
  n60 : n ≤ 60
  rng : ∀ i, i < n → -1 ≤ nx i ∧ nx i < (n : Int)
  lev : ∀ i, i < n → 1 ≤ lv nx n i ∧ lv nx n i ≤ n
  T60 : ∀ i, i < n → T i < 60
  few : ∀ s, cn (fun i => T i == s) n ≤ M
  nxt : ∀ i, i < n → 0 ≤ nx i → T i < T (nx i).toNat
  best : eT T n = best n M (lv nx n) (n + 1)
theorem huOk_of {n : Nat} {nx : Nat → Int} {m : Int} {T : Nat → Nat} (h : hcode n nx m = 0) (hI : HuIs n m.toNat nx T) : HuOk n m.toNat nx T := by
  unfold hcode at h
  by_cases c : m < 1 ∨ 20 < m ∨ 60 < n
  · rw [if_pos c] at h; exact absurd h (by decide)
  · rw [if_neg c] at h
    have hN := goodN_of h
    obtain ⟨t, ht, hr⟩ := hI.rd
    have hst : ∀ i, i < n → (nx i < 0 → lv nx n i = 1) ∧ (0 ≤ nx i → lv nx n i = lv nx n (nx i).toNat + 1) := fun i hi => lv_step (hN.lev i hi)
    have hp := hr.plan (by omega) (fun i hi => (hN.rng i hi).2) hst
    have hlev : ∀ i, i < n → 1 ≤ lv nx n i ∧ lv nx n i ≤ n := fun i hi => ⟨lv_pos nx n i, hN.lev i hi⟩
    refine ⟨by omega, by omega, by omega, hN.rng, hlev, fun i hi => ?_, hp.few, fun i hi h0 => (hp.nxt i hi h0).2.2, hp.hu hlev (eT_ge T n) (eT_is T n)⟩
    have := (hr.dn i hi List.not_mem_nil).1
    omega

set_option maxHeartbeats 8000000 in
set_option maxRecDepth 100000 in
set_option linter.unusedSimpArgs false in
theorem shopHued_any (a : Option Addr) (n c : Nat) (nx : Nat → Int) (m : Int) (w : World) (ha : IRow w a n c nx) :
    Calls Try.prog 6 #[.slice a n c, .int .i64 m] w fun e w' => e = .returned (.bool true) ∧ Below w.heap.size w w' := by
  have b1 := ha.1
  have b2 := ha.2.1
  by_cases h1 : 30 < n
  · have e1 : (30 : Int) < (n : Int) := by omega
    clear ha
    go_enter Try.func6, Try.ntmps6
    go_wp2
    go_ret
    exact ⟨rfl, Below.refl _ _⟩
  have e1 : ¬ (30 : Int) < (n : Int) := by omega
  have HA := hide ha
  have HC := hide (hu_any a n c nx m w ha)
  have HD : Hid (∀ W, Calls Try.prog 8 #[] W fun e w' => e = .returned (.bool true) ∧ Below W.heap.size W w') := flowed_any
  clear ha
  go_enter Try.func6, Try.ntmps6
  go_wp2_with fail
  refine (unhide HC).mono ?_
  rintro e w1 ⟨hb1, hp⟩
  rcases hp with ⟨ht, rfl⟩ | ⟨ht, G, T, hG, rfl, hO, hI⟩
  · have HB := hide hb1
    clear hb1 HC
    generalize hcode n nx m = k at ht ⊢
    clear ht
    go_wp2_with fail
    refine (unhide HD w1).mono ?_
    rintro e w2 ⟨rfl, hb2⟩
    have HB2 := hide (below_step (unhide HB) hb2)
    clear hb2
    go_wp2_with fail
    refine (unhide HD w2).mono ?_
    rintro e w3 ⟨rfl, hb3⟩
    have HB3 := hide (below_step (unhide HB2) hb3)
    clear hb3
    go_wp2
    go_ret
    exact ⟨rfl, unhide HB3⟩
  · have hok := huOk_of ht hI
    have HOK := hide hok
    obtain ⟨M, hM⟩ : ∃ M : Nat, m.toNat = M := ⟨_, rfl⟩
    rw [hM] at HOK hok
    have hm0 := hok.m0
    have hm20 := hok.m20
    obtain rfl : m = (M : Int) := by omega
    have HO := hide hO
    have HB := hide hb1
    have e00 : ((n : Int) == (n : Int)) = true := by simp
    clear hb1 HC ht hO hI hok hM hG
    go_wp2_with fail
    refine (unhide HD w1).mono ?_
    rintro e w2 ⟨rfl, hb2⟩
    have HO2 := hide ((unhide HO).keep hb2)
    have HB2 := hide (below_step (unhide HB) hb2)
    clear hb2 HO HB
    go_wp2_with fail
    go_loopw [7, 8] (fun ve vi wr => ∃ i : Nat, vi = .int .i64 (i : Int) ∧ ve = .int .i64 (eT T i : Int) ∧ i ≤ n ∧ OwnI wr G n (nI T) ∧ Below w.heap.size w wr) (fun _ vi _ => n - (intOf vi).toNat)
    case atStart => exact ⟨0, rfl, rfl, Nat.zero_le _, unhide HO2, unhide HB2⟩
    case round =>
      obtain ⟨i, rfl, rfl, hi, hO, hb⟩ := hrel
      by_cases hlt : i < n
      · have HOO := hide hO
        have HBB := hide hb
        have e2 : (i : Int) < (n : Int) := by omega
        obtain ⟨E, hE⟩ : ∃ E, eT T i = E := ⟨_, rfl⟩
        have HEE := hide hE
        rw [hE]
        clear hO hb hE
        go_wp2_with fail
        go_loopw [9, 10] (fun vm vk wv => ∃ k : Nat, vk = .int .i64 (k : Int) ∧ vm = .int .i64 (cn (fun x => T x == T i) k : Int) ∧ k ≤ n ∧ OwnI wv G n (nI T) ∧ Below w.heap.size w wv) (fun _ vk _ => n - (intOf vk).toNat)
        case atStart => exact ⟨0, rfl, rfl, Nat.zero_le _, unhide HOO, unhide HBB⟩
        case round =>
          obtain ⟨k, rfl, rfl, hk, hO, hb⟩ := hrel
          by_cases hlt2 : k < n
          · have c0 := hO.cell hlt2
            have c1 := hO.cell hlt
            have hcn := cn_le (fun x => T x == T i) k
            have hcs := cn_succ (fun x => T x == T i) k
            have e3 : (0 : Int) ≤ (k : Int) := by omega
            have e4 : (k : Int) < (n : Int) := by omega
            have e5 : (0 : Int) ≤ (i : Int) := by omega
            have e6 : IntKind.i64.wrap ((k : Int) + 1) = (k : Int) + 1 := by rw [IntKind.wrap_i64]; omega
            obtain ⟨v, hv⟩ : ∃ v, cn (fun x => T x == T i) k = v := ⟨_, rfl⟩
            rw [hv] at hcn hcs ⊢
            have e7 : IntKind.i64.wrap ((v : Int) + 1) = (v : Int) + 1 := by rw [IntKind.wrap_i64]; omega
            unfold nI at c0 c1
            obtain ⟨x, hx⟩ : ∃ x, T k = x := ⟨_, rfl⟩
            obtain ⟨y, hy⟩ : ∃ y, T i = y := ⟨_, rfl⟩
            rw [hx] at c0
            rw [hy] at c1
            by_cases hxy : x = y
            · have e8 : ((x : Int) == (y : Int)) = true := by simp; omega
              have HCS : Hid (cn (fun x => T x == T i) (k + 1) = v + 1) := by show cn _ _ = _; rw [hcs, if_pos (by simp [hx, hy, hxy])]
              have HO1 := hide hO
              have HB1 := hide hb
              clear hO hb hcs hv hx hy hxy
              go_wp2_with fail
              go_quiet (fail)
              have HO2' := hide ((unhide HO1).keep (below_drewN wr nq))
              have HB2' := hide (below_step (unhide HB1) (below_drewN wr nq))
              go_wp2_with fail
              exact ⟨⟨k + 1, by go_num, by rw [unhide HCS]; go_num, hlt2, unhide HO2', unhide HB2'⟩, by simp [intOf]; omega⟩
            · have e8 : ((x : Int) == (y : Int)) = false := by rw [beq_eq_false_iff_ne]; omega
              have HCS : Hid (cn (fun x => T x == T i) (k + 1) = v) := by show cn _ _ = _; rw [hcs, if_neg (by simp [hx, hy, hxy])]; rfl
              have HO1 := hide hO
              have HB1 := hide hb
              clear hO hb hcs hv hx hy hxy
              go_wp2_with fail
              go_quiet (fail)
              have HO2' := hide ((unhide HO1).keep (below_drewN wr nq))
              have HB2' := hide (below_step (unhide HB1) (below_drewN wr nq))
              go_wp2_with fail
              exact ⟨⟨k + 1, by go_num, by rw [unhide HCS], hlt2, unhide HO2', unhide HB2'⟩, by simp [intOf]; omega⟩
          · obtain rfl : k = n := by omega
            have e3 : ¬ (k : Int) < (k : Int) := by omega
            have hfew := (unhide HOK).few (T i)
            have hTi := (unhide HOK).T60 i hlt
            have hrg := (unhide HOK).rng i hlt
            have hnx := (unhide HOK).nxt i hlt
            obtain ⟨v, hv⟩ : ∃ v, cn (fun x => T x == T i) k = v := ⟨_, rfl⟩
            rw [hv] at hfew
            rw [hv]
            have e4 : ¬ (M : Int) < (v : Int) := by omega
            have c1 := hO.cell hlt
            unfold nI at c1
            have F1 : Hid (eT T (i + 1) = max (eT T i) (T i + 1)) := rfl
            rw [unhide HEE] at F1
            obtain ⟨b, o, rfl, hbl, hc⟩ := ((unhide HA).below hb).2.2 (by omega)
            have c2 := hc i hlt
            obtain ⟨z, hz⟩ : ∃ z, nx i = z := ⟨_, rfl⟩
            rw [hz] at c2 hrg hnx
            have e5 : (0 : Int) ≤ (i : Int) := by omega
            have e6 : IntKind.i64.wrap ((i : Int) + 1) = (i : Int) + 1 := by rw [IntKind.wrap_i64]; omega
            have HE60 : Hid (E ≤ 60) := by
              have h := unhide HEE
              show E ≤ 60
              rcases eT_is T i with h2 | ⟨j, h2, h3⟩
              · omega
              · have := (unhide HOK).T60 j (by omega); omega
            have hE60 := unhide HE60
            have HO1 := hide hO
            have HB1 := hide hb
            have c3 : 0 ≤ z → ∃ y : Nat, z = (y : Int) ∧ y < k ∧ wr.cell? ⟨G, y, none⟩ = some (.int .i64 (T y : Int)) ∧ T i < T y := fun h0 => by
              have := hnx h0
              exact ⟨z.toNat, by omega, by omega, hO.cell (by omega), this⟩
            obtain ⟨x, hx⟩ : ∃ x, T i = x := ⟨_, rfl⟩
            rw [hx] at c1 c3 F1 hTi
            have e7 : ¬ (x : Int) < 0 := by omega
            have e7' : decide ((x : Int) < 0) = false := decide_eq_false e7
            have e4' : decide (M < v) = false := decide_eq_false (by omega)
            have e8 : IntKind.i64.wrap ((x : Int) + 1) = (x : Int) + 1 := by rw [IntKind.wrap_i64]; omega
            obtain ⟨mx, hmx⟩ : ∃ mx : Nat, max E (x + 1) = mx := ⟨_, rfl⟩
            rw [hmx] at F1
            have e9 : (if (E : Int) < (x : Int) + 1 then (x : Int) + 1 else (E : Int)) = (mx : Int) := by split <;> omega
            clear hO hb hfew hnx hv hc hmx HOO HBB
            by_cases hz0 : 0 ≤ z
            · obtain ⟨y, rfl, hy, c4, hxy⟩ := c3 hz0
              obtain ⟨yv, hyv⟩ : ∃ v, T y = v := ⟨_, rfl⟩
              rw [hyv] at c4 hxy
              have e10 : ¬ (yv : Int) ≤ (x : Int) := by omega
              have e10' : decide (yv ≤ x) = false := decide_eq_false (by omega)
              have e11 : (0 : Int) ≤ (y : Int) := by omega
              have e12 : (y : Int) < (k : Int) := by omega
              clear hyv hz hx hrg hxy
              go_wp2_with fail
              (try simp only [Exit.inBlock, Exit.then])
              (try go_wp2_with fail)
              have HCC : Hid (∀ W, Below wr.heap.size wr W → (fun w' : World => w'.cell? ⟨G, i, none⟩ = some (.int .i64 (x : Int)) ∧ w'.cell? ⟨b, o + i, none⟩ = some (.int .i64 (y : Int)) ∧ w'.cell? ⟨G, y, none⟩ = some (.int .i64 (yv : Int))) W) := fun W hW => ⟨by rw [hW.cell (p := ⟨G, i, none⟩) (unhide HO1).lt]; exact c1, by rw [hW.cell (p := ⟨b, o + i, none⟩) hbl]; exact c2, by rw [hW.cell (p := ⟨G, y, none⟩) (unhide HO1).lt]; exact c4⟩
              refine wp_region_hold (fun w' : World => w'.cell? ⟨G, i, none⟩ = some (.int .i64 (x : Int)) ∧ w'.cell? ⟨b, o + i, none⟩ = some (.int .i64 (y : Int)) ∧ w'.cell? ⟨G, y, none⟩ = some (.int .i64 (yv : Int))) (by kernel_rfl) ?_
              have bd0 : Below wr.heap.size wr wr.drew := (Below.refl _ _).drew
              have hC0 : (fun w' : World => w'.cell? ⟨G, i, none⟩ = some (.int .i64 (x : Int)) ∧ w'.cell? ⟨b, o + i, none⟩ = some (.int .i64 (y : Int)) ∧ w'.cell? ⟨G, y, none⟩ = some (.int .i64 (yv : Int))) wr.drew := unhide HCC _ bd0
              refine wpHold_take (i := 0) (v := ?_) rfl (by kernel_rfl) (by kernel_rfl) (by kernel_rfl) (fun _ _ _ h => h) (Or.inl ⟨by rfl, ?_⟩) hC0 ?_
              rotate_left
              · intro w hSw; clear hSw; go_simp; (try with_reducible rfl)
              (try simp only [List.getElem_toArray, List.getElem_cons_succ, List.getElem_cons_zero])
              (try simp only [Act.put, List.setIfInBounds_toArray, List.set_cons_zero, List.set_cons_succ])
              refine wpHold_take (i := 1) (v := ?_) rfl (by kernel_rfl) (by kernel_rfl) (by kernel_rfl) (fun _ _ _ h => h) (Or.inl ⟨by rfl, ?_⟩) hC0 ?_
              rotate_left
              · intro w hSw; clear hSw; go_simp; (try with_reducible rfl)
              (try simp only [List.getElem_toArray, List.getElem_cons_succ, List.getElem_cons_zero])
              (try simp only [Act.put, List.setIfInBounds_toArray, List.set_cons_zero, List.set_cons_succ])
              refine wpHold_take (i := 2) (v := ?_) rfl (by kernel_rfl) (by kernel_rfl) (by kernel_rfl) (fun _ _ _ h => h) (Or.inl ⟨by rfl, ?_⟩) hC0 ?_
              rotate_left
              · intro w hSw; clear hSw; go_simp; (try with_reducible rfl)
              (try simp only [List.getElem_toArray, List.getElem_cons_succ, List.getElem_cons_zero])
              (try simp only [Act.put, List.setIfInBounds_toArray, List.set_cons_zero, List.set_cons_succ])
              refine wpHold_take (i := 3) (v := ?_) rfl (by kernel_rfl) (by kernel_rfl) (by kernel_rfl) (fun _ _ _ h => h) (Or.inl ⟨by rfl, ?_⟩) hC0 ?_
              rotate_left
              · intro w hSw; clear hSw; go_simp; (try with_reducible rfl)
              (try simp only [List.getElem_toArray, List.getElem_cons_succ, List.getElem_cons_zero])
              (try simp only [Act.put, List.setIfInBounds_toArray, List.set_cons_zero, List.set_cons_succ])
              refine wpHold_take (i := 4) (v := ?_) rfl (by kernel_rfl) (by kernel_rfl) (by kernel_rfl) (fun _ _ _ h => h) (Or.inl ⟨by rfl, ?_⟩) hC0 ?_
              rotate_left
              · intro w hSw; clear hSw; go_simp; (try with_reducible rfl)
              (try simp only [List.getElem_toArray, List.getElem_cons_succ, List.getElem_cons_zero])
              (try simp only [Act.put, List.setIfInBounds_toArray, List.set_cons_zero, List.set_cons_succ])
              refine wpHold_take (i := 5) (v := ?_) rfl (by kernel_rfl) (by kernel_rfl) (by kernel_rfl) (fun _ _ _ h => h) (Or.inl ⟨by rfl, ?_⟩) hC0 ?_
              rotate_left
              · intro w hSw; clear hSw; go_simp; (try with_reducible rfl)
              (try simp only [List.getElem_toArray, List.getElem_cons_succ, List.getElem_cons_zero])
              (try simp only [Act.put, List.setIfInBounds_toArray, List.set_cons_zero, List.set_cons_succ])
              refine wpHold_take (i := 6) (v := ?_) rfl (by kernel_rfl) (by kernel_rfl) (by kernel_rfl) (fun _ _ _ h => h) (Or.inl ⟨by rfl, ?_⟩) hC0 ?_
              rotate_left
              · intro w hSw; clear hSw; go_simp; (try with_reducible rfl)
              (try simp only [List.getElem_toArray, List.getElem_cons_succ, List.getElem_cons_zero])
              (try simp only [Act.put, List.setIfInBounds_toArray, List.set_cons_zero, List.set_cons_succ])
              refine wpHold_take (i := 7) (v := ?_) rfl (by kernel_rfl) (by kernel_rfl) (by kernel_rfl) (fun _ _ _ h => h) (Or.inl ⟨by rfl, ?_⟩) hC0 ?_
              rotate_left
              · intro w hSw; (try dsimp only at hSw); obtain ⟨z0, z1, z2⟩ := hSw; go_simp; (try with_reducible rfl)
              (try simp only [List.getElem_toArray, List.getElem_cons_succ, List.getElem_cons_zero])
              (try simp only [Act.put, List.setIfInBounds_toArray, List.set_cons_zero, List.set_cons_succ])
              refine wpHold_take (i := 8) (v := ?_) rfl (by kernel_rfl) (by kernel_rfl) (by kernel_rfl) (fun _ _ _ h => h) (Or.inl ⟨by rfl, ?_⟩) hC0 ?_
              rotate_left
              · intro w hSw; clear hSw; go_simp; (try with_reducible rfl)
              (try simp only [List.getElem_toArray, List.getElem_cons_succ, List.getElem_cons_zero])
              (try simp only [Act.put, List.setIfInBounds_toArray, List.set_cons_zero, List.set_cons_succ])
              refine wpHold_take (i := 9) (v := ?_) rfl (by kernel_rfl) (by kernel_rfl) (by kernel_rfl) (fun _ _ _ h => h) (Or.inl ⟨by rfl, ?_⟩) hC0 ?_
              rotate_left
              · intro w hSw; clear hSw; go_simp; (try with_reducible rfl)
              (try simp only [List.getElem_toArray, List.getElem_cons_succ, List.getElem_cons_zero])
              (try simp only [Act.put, List.setIfInBounds_toArray, List.set_cons_zero, List.set_cons_succ])
              refine wpHold_take (i := 10) (v := ?_) rfl (by kernel_rfl) (by kernel_rfl) (by kernel_rfl) (fun _ _ _ h => h) (Or.inl ⟨by rfl, ?_⟩) hC0 ?_
              rotate_left
              · intro w hSw; clear hSw; go_simp; (try with_reducible rfl)
              (try simp only [List.getElem_toArray, List.getElem_cons_succ, List.getElem_cons_zero])
              (try simp only [Act.put, List.setIfInBounds_toArray, List.set_cons_zero, List.set_cons_succ])
              refine wpHold_take (i := 11) (v := ?_) rfl (by kernel_rfl) (by kernel_rfl) (by kernel_rfl) (fun _ _ _ h => h) (Or.inl ⟨by rfl, ?_⟩) hC0 ?_
              rotate_left
              · intro w hSw; clear hSw; go_simp; (try with_reducible rfl)
              (try simp only [List.getElem_toArray, List.getElem_cons_succ, List.getElem_cons_zero])
              (try simp only [Act.put, List.setIfInBounds_toArray, List.set_cons_zero, List.set_cons_succ])
              refine wpHold_take (i := 12) (v := ?_) rfl (by kernel_rfl) (by kernel_rfl) (by kernel_rfl) (fun _ _ _ h => h) (Or.inl ⟨by rfl, ?_⟩) hC0 ?_
              rotate_left
              · intro w hSw; clear hSw; go_simp; (try with_reducible rfl)
              (try simp only [List.getElem_toArray, List.getElem_cons_succ, List.getElem_cons_zero])
              (try simp only [Act.put, List.setIfInBounds_toArray, List.set_cons_zero, List.set_cons_succ])
              refine wpHold_take (i := 13) (v := ?_) rfl (by kernel_rfl) (by kernel_rfl) (by kernel_rfl) (fun _ _ _ h => h) (Or.inl ⟨by rfl, ?_⟩) hC0 ?_
              rotate_left
              · intro w hSw; clear hSw; go_simp; (try with_reducible rfl)
              (try simp only [List.getElem_toArray, List.getElem_cons_succ, List.getElem_cons_zero])
              (try simp only [Act.put, List.setIfInBounds_toArray, List.set_cons_zero, List.set_cons_succ])
              refine wpHold_take (i := 14) (v := ?_) rfl (by kernel_rfl) (by kernel_rfl) (by kernel_rfl) (fun _ _ _ h => h) (Or.inl ⟨by rfl, ?_⟩) hC0 ?_
              rotate_left
              · intro w hSw; (try dsimp only at hSw); obtain ⟨z0, z1, z2⟩ := hSw; go_simp; (try with_reducible rfl)
              (try simp only [List.getElem_toArray, List.getElem_cons_succ, List.getElem_cons_zero])
              (try simp only [Act.put, List.setIfInBounds_toArray, List.set_cons_zero, List.set_cons_succ])
              refine wpHold_take (i := 15) (v := ?_) rfl (by kernel_rfl) (by kernel_rfl) (by kernel_rfl) (fun _ _ _ h => h) (Or.inl ⟨by rfl, ?_⟩) hC0 ?_
              rotate_left
              · intro w hSw; clear hSw; go_simp; (try with_reducible rfl)
              (try simp only [List.getElem_toArray, List.getElem_cons_succ, List.getElem_cons_zero])
              (try simp only [Act.put, List.setIfInBounds_toArray, List.set_cons_zero, List.set_cons_succ])
              refine wpHold_take (i := 16) (v := ?_) rfl (by kernel_rfl) (by kernel_rfl) (by kernel_rfl) (fun _ _ _ h => h) (Or.inl ⟨by rfl, ?_⟩) hC0 ?_
              rotate_left
              · intro w hSw; clear hSw; go_simp; (try with_reducible rfl)
              (try simp only [List.getElem_toArray, List.getElem_cons_succ, List.getElem_cons_zero])
              (try simp only [Act.put, List.setIfInBounds_toArray, List.set_cons_zero, List.set_cons_succ])
              refine wpHold_take (i := 17) (v := ?_) rfl (by kernel_rfl) (by kernel_rfl) (by kernel_rfl) (fun _ _ _ h => h) (Or.inl ⟨by rfl, ?_⟩) hC0 ?_
              rotate_left
              · intro w hSw; clear hSw; go_simp; (try with_reducible rfl)
              (try simp only [List.getElem_toArray, List.getElem_cons_succ, List.getElem_cons_zero])
              (try simp only [Act.put, List.setIfInBounds_toArray, List.set_cons_zero, List.set_cons_succ])
              refine wpHold_take (i := 18) (v := ?_) rfl (by kernel_rfl) (by kernel_rfl) (by kernel_rfl) (fun _ _ _ h => h) (Or.inl ⟨by rfl, ?_⟩) hC0 ?_
              rotate_left
              · intro w hSw; clear hSw; go_simp; (try with_reducible rfl)
              (try simp only [List.getElem_toArray, List.getElem_cons_succ, List.getElem_cons_zero])
              (try simp only [Act.put, List.setIfInBounds_toArray, List.set_cons_zero, List.set_cons_succ])
              refine wpHold_take (i := 19) (v := ?_) rfl (by kernel_rfl) (by kernel_rfl) (by kernel_rfl) (fun _ _ _ h => h) (Or.inl ⟨by rfl, ?_⟩) hC0 ?_
              rotate_left
              · intro w hSw; clear hSw; go_simp; (try with_reducible rfl)
              (try simp only [List.getElem_toArray, List.getElem_cons_succ, List.getElem_cons_zero])
              (try simp only [Act.put, List.setIfInBounds_toArray, List.set_cons_zero, List.set_cons_succ])
              refine wpHold_take (i := 20) (v := ?_) rfl (by kernel_rfl) (by kernel_rfl) (by kernel_rfl) (fun _ _ _ h => h) (Or.inl ⟨by rfl, ?_⟩) hC0 ?_
              rotate_left
              · intro w hSw; clear hSw; go_simp; (try with_reducible rfl)
              (try simp only [List.getElem_toArray, List.getElem_cons_succ, List.getElem_cons_zero])
              (try simp only [Act.put, List.setIfInBounds_toArray, List.set_cons_zero, List.set_cons_succ])
              refine wpHold_take (i := 21) (v := ?_) rfl (by kernel_rfl) (by kernel_rfl) (by kernel_rfl) (fun _ _ _ h => h) (Or.inl ⟨by rfl, ?_⟩) hC0 ?_
              rotate_left
              · intro w hSw; (try dsimp only at hSw); obtain ⟨z0, z1, z2⟩ := hSw; go_simp; (try with_reducible rfl)
              (try simp only [List.getElem_toArray, List.getElem_cons_succ, List.getElem_cons_zero])
              (try simp only [Act.put, List.setIfInBounds_toArray, List.set_cons_zero, List.set_cons_succ])
              refine wpHold_take (i := 22) (v := ?_) rfl (by kernel_rfl) (by kernel_rfl) (by kernel_rfl) (fun _ _ _ h => h) (Or.inl ⟨by rfl, ?_⟩) hC0 ?_
              rotate_left
              · intro w hSw; clear hSw; go_simp; (try with_reducible rfl)
              (try simp only [List.getElem_toArray, List.getElem_cons_succ, List.getElem_cons_zero])
              (try simp only [Act.put, List.setIfInBounds_toArray, List.set_cons_zero, List.set_cons_succ])
              refine wpHold_take (i := 23) (v := ?_) rfl (by kernel_rfl) (by kernel_rfl) (by kernel_rfl) (fun _ _ _ h => h) (Or.inl ⟨by rfl, ?_⟩) hC0 ?_
              rotate_left
              · intro w hSw; (try dsimp only at hSw); obtain ⟨z0, z1, z2⟩ := hSw; go_simp; (try with_reducible rfl)
              (try simp only [List.getElem_toArray, List.getElem_cons_succ, List.getElem_cons_zero])
              (try simp only [Act.put, List.setIfInBounds_toArray, List.set_cons_zero, List.set_cons_succ])
              refine wpHold_take (i := 24) (v := ?_) rfl (by kernel_rfl) (by kernel_rfl) (by kernel_rfl) (fun _ _ _ h => h) (Or.inl ⟨by rfl, ?_⟩) hC0 ?_
              rotate_left
              · intro w hSw; clear hSw; go_simp; (try with_reducible rfl)
              (try simp only [List.getElem_toArray, List.getElem_cons_succ, List.getElem_cons_zero])
              (try simp only [Act.put, List.setIfInBounds_toArray, List.set_cons_zero, List.set_cons_succ])
              refine wpHold_take (i := 25) (v := ?_) rfl (by kernel_rfl) (by kernel_rfl) (by kernel_rfl) (fun _ _ _ h => h) (Or.inl ⟨by rfl, ?_⟩) hC0 ?_
              rotate_left
              · intro w hSw; clear hSw; go_simp; (try with_reducible rfl)
              (try simp only [List.getElem_toArray, List.getElem_cons_succ, List.getElem_cons_zero])
              (try simp only [Act.put, List.setIfInBounds_toArray, List.set_cons_zero, List.set_cons_succ])
              refine wpHold_take (i := 26) (v := ?_) rfl (by kernel_rfl) (by kernel_rfl) (by kernel_rfl) (fun _ _ _ h => h) (Or.inl ⟨by rfl, ?_⟩) hC0 ?_
              rotate_left
              · intro w hSw; clear hSw; go_simp; (try with_reducible rfl)
              (try simp only [List.getElem_toArray, List.getElem_cons_succ, List.getElem_cons_zero])
              (try simp only [Act.put, List.setIfInBounds_toArray, List.set_cons_zero, List.set_cons_succ])
              refine wpHold_take (i := 27) (v := ?_) rfl (by kernel_rfl) (by kernel_rfl) (by kernel_rfl) (fun _ _ _ h => h) (Or.inl ⟨by rfl, ?_⟩) hC0 ?_
              rotate_left
              · intro w hSw; (try dsimp only at hSw); obtain ⟨z0, z1, z2⟩ := hSw; go_simp; (try with_reducible rfl)
              (try simp only [List.getElem_toArray, List.getElem_cons_succ, List.getElem_cons_zero])
              (try simp only [Act.put, List.setIfInBounds_toArray, List.set_cons_zero, List.set_cons_succ])
              refine wpHold_take (i := 28) (v := ?_) rfl (by kernel_rfl) (by kernel_rfl) (by kernel_rfl) (fun _ _ _ h => h) (Or.inl ⟨by rfl, ?_⟩) hC0 ?_
              rotate_left
              · intro w hSw; clear hSw; go_simp; (try with_reducible rfl)
              (try simp only [List.getElem_toArray, List.getElem_cons_succ, List.getElem_cons_zero])
              (try simp only [Act.put, List.setIfInBounds_toArray, List.set_cons_zero, List.set_cons_succ])
              refine wpHold_take (i := 29) (v := ?_) rfl (by kernel_rfl) (by kernel_rfl) (by kernel_rfl) (fun _ _ _ h => h) (Or.inl ⟨by rfl, ?_⟩) hC0 ?_
              rotate_left
              · intro w hSw; clear hSw; go_simp; (try with_reducible rfl)
              (try simp only [List.getElem_toArray, List.getElem_cons_succ, List.getElem_cons_zero])
              (try simp only [Act.put, List.setIfInBounds_toArray, List.set_cons_zero, List.set_cons_succ])
              refine wpHold_take (i := 30) (v := ?_) rfl (by kernel_rfl) (by kernel_rfl) (by kernel_rfl) (fun _ _ _ h => h) (Or.inl ⟨by rfl, ?_⟩) hC0 ?_
              rotate_left
              · intro w hSw; clear hSw; go_simp; (try with_reducible rfl)
              (try simp only [List.getElem_toArray, List.getElem_cons_succ, List.getElem_cons_zero])
              (try simp only [Act.put, List.setIfInBounds_toArray, List.set_cons_zero, List.set_cons_succ])
              refine wpHold_done (by kernel_rfl) ?_ _
              clear hC0 HCC
              have HO2' := hide ((unhide HO1).keep bd0)
              have HB2' := hide (below_step (unhide HB1) bd0)
              have c1' : wr.drew.cell? ⟨G, i, none⟩ = some (.int .i64 (x : Int)) := c1
              clear bd0
              go_wp2_with fail
              exact ⟨⟨i + 1, by go_num, by rw [unhide F1], hlt, unhide HO2', unhide HB2'⟩, by simp [intOf]; omega⟩
            · have e10 : decide (0 ≤ z) = false := decide_eq_false hz0
              clear hz hx hrg c3
              go_wp2_with fail
              (try simp only [Exit.inBlock, Exit.then])
              (try go_wp2_with fail)
              have HCC : Hid (∀ W, Below wr.heap.size wr W → (fun w' : World => w'.cell? ⟨G, i, none⟩ = some (.int .i64 (x : Int)) ∧ w'.cell? ⟨b, o + i, none⟩ = some (.int .i64 z)) W) := fun W hW => ⟨by rw [hW.cell (p := ⟨G, i, none⟩) (unhide HO1).lt]; exact c1, by rw [hW.cell (p := ⟨b, o + i, none⟩) hbl]; exact c2⟩
              refine wp_region_hold (fun w' : World => w'.cell? ⟨G, i, none⟩ = some (.int .i64 (x : Int)) ∧ w'.cell? ⟨b, o + i, none⟩ = some (.int .i64 z)) (by kernel_rfl) ?_
              have bd0 : Below wr.heap.size wr wr.drew := (Below.refl _ _).drew
              have hC0 : (fun w' : World => w'.cell? ⟨G, i, none⟩ = some (.int .i64 (x : Int)) ∧ w'.cell? ⟨b, o + i, none⟩ = some (.int .i64 z)) wr.drew := unhide HCC _ bd0
              refine wpHold_take (i := 0) (v := ?_) rfl (by kernel_rfl) (by kernel_rfl) (by kernel_rfl) (fun _ _ _ h => h) (Or.inl ⟨by rfl, ?_⟩) hC0 ?_
              rotate_left
              · intro w hSw; clear hSw; go_simp; (try with_reducible rfl)
              (try simp only [List.getElem_toArray, List.getElem_cons_succ, List.getElem_cons_zero])
              (try simp only [Act.put, List.setIfInBounds_toArray, List.set_cons_zero, List.set_cons_succ])
              refine wpHold_take (i := 1) (v := ?_) rfl (by kernel_rfl) (by kernel_rfl) (by kernel_rfl) (fun _ _ _ h => h) (Or.inl ⟨by rfl, ?_⟩) hC0 ?_
              rotate_left
              · intro w hSw; clear hSw; go_simp; (try with_reducible rfl)
              (try simp only [List.getElem_toArray, List.getElem_cons_succ, List.getElem_cons_zero])
              (try simp only [Act.put, List.setIfInBounds_toArray, List.set_cons_zero, List.set_cons_succ])
              refine wpHold_take (i := 2) (v := ?_) rfl (by kernel_rfl) (by kernel_rfl) (by kernel_rfl) (fun _ _ _ h => h) (Or.inl ⟨by rfl, ?_⟩) hC0 ?_
              rotate_left
              · intro w hSw; clear hSw; go_simp; (try with_reducible rfl)
              (try simp only [List.getElem_toArray, List.getElem_cons_succ, List.getElem_cons_zero])
              (try simp only [Act.put, List.setIfInBounds_toArray, List.set_cons_zero, List.set_cons_succ])
              refine wpHold_take (i := 3) (v := ?_) rfl (by kernel_rfl) (by kernel_rfl) (by kernel_rfl) (fun _ _ _ h => h) (Or.inl ⟨by rfl, ?_⟩) hC0 ?_
              rotate_left
              · intro w hSw; clear hSw; go_simp; (try with_reducible rfl)
              (try simp only [List.getElem_toArray, List.getElem_cons_succ, List.getElem_cons_zero])
              (try simp only [Act.put, List.setIfInBounds_toArray, List.set_cons_zero, List.set_cons_succ])
              refine wpHold_take (i := 4) (v := ?_) rfl (by kernel_rfl) (by kernel_rfl) (by kernel_rfl) (fun _ _ _ h => h) (Or.inl ⟨by rfl, ?_⟩) hC0 ?_
              rotate_left
              · intro w hSw; clear hSw; go_simp; (try with_reducible rfl)
              (try simp only [List.getElem_toArray, List.getElem_cons_succ, List.getElem_cons_zero])
              (try simp only [Act.put, List.setIfInBounds_toArray, List.set_cons_zero, List.set_cons_succ])
              refine wpHold_take (i := 5) (v := ?_) rfl (by kernel_rfl) (by kernel_rfl) (by kernel_rfl) (fun _ _ _ h => h) (Or.inl ⟨by rfl, ?_⟩) hC0 ?_
              rotate_left
              · intro w hSw; clear hSw; go_simp; (try with_reducible rfl)
              (try simp only [List.getElem_toArray, List.getElem_cons_succ, List.getElem_cons_zero])
              (try simp only [Act.put, List.setIfInBounds_toArray, List.set_cons_zero, List.set_cons_succ])
              refine wpHold_take (i := 6) (v := ?_) rfl (by kernel_rfl) (by kernel_rfl) (by kernel_rfl) (fun _ _ _ h => h) (Or.inl ⟨by rfl, ?_⟩) hC0 ?_
              rotate_left
              · intro w hSw; clear hSw; go_simp; (try with_reducible rfl)
              (try simp only [List.getElem_toArray, List.getElem_cons_succ, List.getElem_cons_zero])
              (try simp only [Act.put, List.setIfInBounds_toArray, List.set_cons_zero, List.set_cons_succ])
              refine wpHold_take (i := 7) (v := ?_) rfl (by kernel_rfl) (by kernel_rfl) (by kernel_rfl) (fun _ _ _ h => h) (Or.inl ⟨by rfl, ?_⟩) hC0 ?_
              rotate_left
              · intro w hSw; (try dsimp only at hSw); obtain ⟨z0, z1⟩ := hSw; go_simp; (try with_reducible rfl)
              (try simp only [List.getElem_toArray, List.getElem_cons_succ, List.getElem_cons_zero])
              (try simp only [Act.put, List.setIfInBounds_toArray, List.set_cons_zero, List.set_cons_succ])
              refine wpHold_take (i := 8) (v := ?_) rfl (by kernel_rfl) (by kernel_rfl) (by kernel_rfl) (fun _ _ _ h => h) (Or.inl ⟨by rfl, ?_⟩) hC0 ?_
              rotate_left
              · intro w hSw; clear hSw; go_simp; (try with_reducible rfl)
              (try simp only [List.getElem_toArray, List.getElem_cons_succ, List.getElem_cons_zero])
              (try simp only [Act.put, List.setIfInBounds_toArray, List.set_cons_zero, List.set_cons_succ])
              refine wpHold_take (i := 9) (v := ?_) rfl (by kernel_rfl) (by kernel_rfl) (by kernel_rfl) (fun _ _ _ h => h) (Or.inl ⟨by rfl, ?_⟩) hC0 ?_
              rotate_left
              · intro w hSw; clear hSw; go_simp; (try with_reducible rfl)
              (try simp only [List.getElem_toArray, List.getElem_cons_succ, List.getElem_cons_zero])
              (try simp only [Act.put, List.setIfInBounds_toArray, List.set_cons_zero, List.set_cons_succ])
              refine wpHold_take (i := 10) (v := ?_) rfl (by kernel_rfl) (by kernel_rfl) (by kernel_rfl) (fun _ _ _ h => h) (Or.inl ⟨by rfl, ?_⟩) hC0 ?_
              rotate_left
              · intro w hSw; clear hSw; go_simp; (try with_reducible rfl)
              (try simp only [List.getElem_toArray, List.getElem_cons_succ, List.getElem_cons_zero])
              (try simp only [Act.put, List.setIfInBounds_toArray, List.set_cons_zero, List.set_cons_succ])
              refine wpHold_take (i := 11) (v := ?_) rfl (by kernel_rfl) (by kernel_rfl) (by kernel_rfl) (fun _ _ _ h => h) (Or.inl ⟨by rfl, ?_⟩) hC0 ?_
              rotate_left
              · intro w hSw; clear hSw; go_simp; (try with_reducible rfl)
              (try simp only [List.getElem_toArray, List.getElem_cons_succ, List.getElem_cons_zero])
              (try simp only [Act.put, List.setIfInBounds_toArray, List.set_cons_zero, List.set_cons_succ])
              refine wpHold_take (i := 12) (v := ?_) rfl (by kernel_rfl) (by kernel_rfl) (by kernel_rfl) (fun _ _ _ h => h) (Or.inl ⟨by rfl, ?_⟩) hC0 ?_
              rotate_left
              · intro w hSw; clear hSw; go_simp; (try with_reducible rfl)
              (try simp only [List.getElem_toArray, List.getElem_cons_succ, List.getElem_cons_zero])
              (try simp only [Act.put, List.setIfInBounds_toArray, List.set_cons_zero, List.set_cons_succ])
              refine wpHold_take (i := 13) (v := ?_) rfl (by kernel_rfl) (by kernel_rfl) (by kernel_rfl) (fun _ _ _ h => h) (Or.inl ⟨by rfl, ?_⟩) hC0 ?_
              rotate_left
              · intro w hSw; clear hSw; go_simp; (try with_reducible rfl)
              (try simp only [List.getElem_toArray, List.getElem_cons_succ, List.getElem_cons_zero])
              (try simp only [Act.put, List.setIfInBounds_toArray, List.set_cons_zero, List.set_cons_succ])
              refine wpHold_take (i := 14) (v := ?_) rfl (by kernel_rfl) (by kernel_rfl) (by kernel_rfl) (fun _ _ _ h => h) (Or.inl ⟨by rfl, ?_⟩) hC0 ?_
              rotate_left
              · intro w hSw; (try dsimp only at hSw); obtain ⟨z0, z1⟩ := hSw; go_simp; (try with_reducible rfl)
              (try simp only [List.getElem_toArray, List.getElem_cons_succ, List.getElem_cons_zero])
              (try simp only [Act.put, List.setIfInBounds_toArray, List.set_cons_zero, List.set_cons_succ])
              refine wpHold_take (i := 15) (v := ?_) rfl (by kernel_rfl) (by kernel_rfl) (by kernel_rfl) (fun _ _ _ h => h) (Or.inl ⟨by rfl, ?_⟩) hC0 ?_
              rotate_left
              · intro w hSw; clear hSw; go_simp; (try with_reducible rfl)
              (try simp only [List.getElem_toArray, List.getElem_cons_succ, List.getElem_cons_zero])
              (try simp only [Act.put, List.setIfInBounds_toArray, List.set_cons_zero, List.set_cons_succ])
              refine wpHold_take (i := 16) (v := ?_) rfl (by kernel_rfl) (by kernel_rfl) (by kernel_rfl) (fun _ _ _ h => h) (Or.inl ⟨by rfl, ?_⟩) hC0 ?_
              rotate_left
              · intro w hSw; clear hSw; go_simp; (try with_reducible rfl)
              (try simp only [List.getElem_toArray, List.getElem_cons_succ, List.getElem_cons_zero])
              (try simp only [Act.put, List.setIfInBounds_toArray, List.set_cons_zero, List.set_cons_succ])
              refine wpHold_take (i := 17) (v := undef) rfl (by kernel_rfl) (by kernel_rfl) (by kernel_rfl) (fun _ _ _ h => h) (Or.inr ⟨by rfl, rfl⟩) hC0 ?_
              (try simp only [List.getElem_toArray, List.getElem_cons_succ, List.getElem_cons_zero])
              (try simp only [Act.put, List.setIfInBounds_toArray, List.set_cons_zero, List.set_cons_succ])
              refine wpHold_take (i := 18) (v := undef) rfl (by kernel_rfl) (by kernel_rfl) (by kernel_rfl) (fun _ _ _ h => h) (Or.inr ⟨by rfl, rfl⟩) hC0 ?_
              (try simp only [List.getElem_toArray, List.getElem_cons_succ, List.getElem_cons_zero])
              (try simp only [Act.put, List.setIfInBounds_toArray, List.set_cons_zero, List.set_cons_succ])
              refine wpHold_take (i := 19) (v := undef) rfl (by kernel_rfl) (by kernel_rfl) (by kernel_rfl) (fun _ _ _ h => h) (Or.inr ⟨by rfl, rfl⟩) hC0 ?_
              (try simp only [List.getElem_toArray, List.getElem_cons_succ, List.getElem_cons_zero])
              (try simp only [Act.put, List.setIfInBounds_toArray, List.set_cons_zero, List.set_cons_succ])
              refine wpHold_take (i := 20) (v := undef) rfl (by kernel_rfl) (by kernel_rfl) (by kernel_rfl) (fun _ _ _ h => h) (Or.inr ⟨by rfl, rfl⟩) hC0 ?_
              (try simp only [List.getElem_toArray, List.getElem_cons_succ, List.getElem_cons_zero])
              (try simp only [Act.put, List.setIfInBounds_toArray, List.set_cons_zero, List.set_cons_succ])
              refine wpHold_take (i := 21) (v := undef) rfl (by kernel_rfl) (by kernel_rfl) (by kernel_rfl) (fun _ _ _ h => h) (Or.inr ⟨by rfl, rfl⟩) hC0 ?_
              (try simp only [List.getElem_toArray, List.getElem_cons_succ, List.getElem_cons_zero])
              (try simp only [Act.put, List.setIfInBounds_toArray, List.set_cons_zero, List.set_cons_succ])
              refine wpHold_take (i := 22) (v := undef) rfl (by kernel_rfl) (by kernel_rfl) (by kernel_rfl) (fun _ _ _ h => h) (Or.inr ⟨by rfl, rfl⟩) hC0 ?_
              (try simp only [List.getElem_toArray, List.getElem_cons_succ, List.getElem_cons_zero])
              (try simp only [Act.put, List.setIfInBounds_toArray, List.set_cons_zero, List.set_cons_succ])
              refine wpHold_take (i := 23) (v := undef) rfl (by kernel_rfl) (by kernel_rfl) (by kernel_rfl) (fun _ _ _ h => h) (Or.inr ⟨by rfl, rfl⟩) hC0 ?_
              (try simp only [List.getElem_toArray, List.getElem_cons_succ, List.getElem_cons_zero])
              (try simp only [Act.put, List.setIfInBounds_toArray, List.set_cons_zero, List.set_cons_succ])
              refine wpHold_take (i := 24) (v := undef) rfl (by kernel_rfl) (by kernel_rfl) (by kernel_rfl) (fun _ _ _ h => h) (Or.inr ⟨by rfl, rfl⟩) hC0 ?_
              (try simp only [List.getElem_toArray, List.getElem_cons_succ, List.getElem_cons_zero])
              (try simp only [Act.put, List.setIfInBounds_toArray, List.set_cons_zero, List.set_cons_succ])
              refine wpHold_take (i := 25) (v := undef) rfl (by kernel_rfl) (by kernel_rfl) (by kernel_rfl) (fun _ _ _ h => h) (Or.inr ⟨by rfl, rfl⟩) hC0 ?_
              (try simp only [List.getElem_toArray, List.getElem_cons_succ, List.getElem_cons_zero])
              (try simp only [Act.put, List.setIfInBounds_toArray, List.set_cons_zero, List.set_cons_succ])
              refine wpHold_take (i := 26) (v := undef) rfl (by kernel_rfl) (by kernel_rfl) (by kernel_rfl) (fun _ _ _ h => h) (Or.inr ⟨by rfl, rfl⟩) hC0 ?_
              (try simp only [List.getElem_toArray, List.getElem_cons_succ, List.getElem_cons_zero])
              (try simp only [Act.put, List.setIfInBounds_toArray, List.set_cons_zero, List.set_cons_succ])
              refine wpHold_take (i := 27) (v := undef) rfl (by kernel_rfl) (by kernel_rfl) (by kernel_rfl) (fun _ _ _ h => h) (Or.inr ⟨by rfl, rfl⟩) hC0 ?_
              (try simp only [List.getElem_toArray, List.getElem_cons_succ, List.getElem_cons_zero])
              (try simp only [Act.put, List.setIfInBounds_toArray, List.set_cons_zero, List.set_cons_succ])
              refine wpHold_take (i := 28) (v := undef) rfl (by kernel_rfl) (by kernel_rfl) (by kernel_rfl) (fun _ _ _ h => h) (Or.inr ⟨by rfl, rfl⟩) hC0 ?_
              (try simp only [List.getElem_toArray, List.getElem_cons_succ, List.getElem_cons_zero])
              (try simp only [Act.put, List.setIfInBounds_toArray, List.set_cons_zero, List.set_cons_succ])
              refine wpHold_take (i := 29) (v := ?_) rfl (by kernel_rfl) (by kernel_rfl) (by kernel_rfl) (fun _ _ _ h => h) (Or.inl ⟨by rfl, ?_⟩) hC0 ?_
              rotate_left
              · intro w hSw; clear hSw; go_simp; (try with_reducible rfl)
              (try simp only [List.getElem_toArray, List.getElem_cons_succ, List.getElem_cons_zero])
              (try simp only [Act.put, List.setIfInBounds_toArray, List.set_cons_zero, List.set_cons_succ])
              refine wpHold_take (i := 30) (v := ?_) rfl (by kernel_rfl) (by kernel_rfl) (by kernel_rfl) (fun _ _ _ h => h) (Or.inl ⟨by rfl, ?_⟩) hC0 ?_
              rotate_left
              · intro w hSw; clear hSw; go_simp; (try with_reducible rfl)
              (try simp only [List.getElem_toArray, List.getElem_cons_succ, List.getElem_cons_zero])
              (try simp only [Act.put, List.setIfInBounds_toArray, List.set_cons_zero, List.set_cons_succ])
              refine wpHold_done (by kernel_rfl) ?_ _
              clear hC0 HCC
              have HO2' := hide ((unhide HO1).keep bd0)
              have HB2' := hide (below_step (unhide HB1) bd0)
              have c1' : wr.drew.cell? ⟨G, i, none⟩ = some (.int .i64 (x : Int)) := c1
              clear bd0
              go_wp2_with fail
              exact ⟨⟨i + 1, by go_num, by rw [unhide F1], hlt, unhide HO2', unhide HB2'⟩, by simp [intOf]; omega⟩
      · obtain rfl : i = n := by omega
        have e2 : ¬ (i : Int) < (i : Int) := by omega
        have HBE := (unhide HOK).best
        have HBEST := hide HBE
        clear HBE
        obtain ⟨E, hE⟩ : ∃ E, eT T i = E := ⟨_, rfl⟩
        rw [hE] at HBEST ⊢
        have mk := make_ints i (by omega) wr
        have O0 := hide (make_own wr i)
        have B0 := hide (below_step hb (alloc_below wr (.cells (lrow (fun _ => 0) i).toArray 3)))
        obtain ⟨W0, hW0⟩ : ∃ W, wr.alloc (.cells (lrow (fun _ => 0) i).toArray 3) = W := ⟨_, rfl⟩
        rw [hW0] at mk O0 B0
        obtain ⟨G2, hG2⟩ : ∃ G, wr.heap.size = G := ⟨_, rfl⟩
        rw [hG2] at mk O0
        have HGe : Hid (w.heap.size ≤ G2) := by show _ ≤ G2; rw [← hG2]; exact hb.size
        obtain ⟨n', hn'⟩ : ∃ x, x = i := ⟨_, rfl⟩
        subst hn'
        clear hW0 hG2 hO hb hE HO2 HB2
        go_wp2_with fail
        (try simp only [Exit.inBlock, Exit.then])
        (try go_wp2_with fail)
        clear mk
        go_loopw [12] (fun vi wv => ∃ j : Nat, vi = .int .i64 (j : Int) ∧ j ≤ n' ∧ OwnI wv G2 n' (fun x => if x < j then (lv nx n' x : Int) else 0) ∧ Below w.heap.size w wv) (fun vi _ => n' - (intOf vi).toNat)
        case atStart => exact ⟨0, rfl, Nat.zero_le _, (unhide O0).congr (fun j _ => by simp), unhide B0⟩
        case round =>
          obtain ⟨j, rfl, hj, hO, hb⟩ := hrel
          by_cases hlt2 : j < n'
          · have e3 : (j : Int) < (n' : Int) := by omega
            have HO := hide hO
            have HB := hide hb
            clear hO hb
            go_wp2_with fail
            go_loopw [13] (fun vx wv => ∃ (t : Nat) (x : Int), vx = .int .i64 x ∧ t ≤ n' ∧ -1 ≤ x ∧ x < (n' : Int) ∧ lv nx n' j = t + lvl nx (n' + 1 - t) x ∧ OwnI wv G2 n' (updI (fun y => if y < j then (lv nx n' y : Int) else 0) j (t : Int)) ∧ Below w.heap.size w wv) (fun _ wv => n' + 1 - cellN wv G2 j)
            case atStart =>
              refine ⟨0, (j : Int), rfl, Nat.zero_le _, by omega, by omega, ?_, ?_, unhide HB⟩
              · show lv nx n' j = 0 + lvl nx (n' + 1) (j : Int); rw [Nat.zero_add]; rfl
              · refine (unhide HO).congr (fun y _ => ?_)
                unfold updI
                by_cases c : y = j
                · rw [if_pos c, if_neg (by omega)]; rfl
                · rw [if_neg c]
            case round =>
              obtain ⟨t, x, rfl, ht, hx0, hx1, hle, hO2, hb2⟩ := hrel
              have hcn := hO2.cellN hlt2
              have hlev := (unhide HOK).lev j hlt2
              by_cases hx : 0 ≤ x
              · obtain ⟨y, rfl⟩ : ∃ y : Nat, x = (y : Int) := ⟨x.toNat, by omega⟩
                have hy : y < n' := by omega
                obtain ⟨b, o, rfl, hbl, hc⟩ := ((unhide HA).below hb2).2.2 (by omega)
                have c0 := hc y hy
                have hng := (unhide HOK).rng y hy
                have g1 := hO2.cell hlt2
                have g2 := hO2.free j
                rw [show updI (fun y => if y < j then (lv nx n' y : Int) else 0) j (t : Int) j = (t : Int) by unfold updI; rw [if_pos rfl]] at g1 hcn
                have e4 : IntKind.i64.wrap ((t : Int) + 1) = (t : Int) + 1 := by rw [IntKind.wrap_i64]; omega
                have e5 : (0 : Int) ≤ (y : Int) := by omega
                have e6 : (0 : Int) ≤ (j : Int) := by omega
                have e7 : (y : Int) < (n' : Int) := by omega
                have hstep : lvl nx (n' + 1 - t) (y : Int) = 1 + lvl nx (n' - t) (nx y) := by
                  rw [show n' + 1 - t = (n' - t) + 1 by omega, lvl_pos nx (by omega), Int.toNat_natCast]
                have O3 := hO2.set j ((t : Int) + 1)
                have B3 := hb2.setCell (p := ⟨G2, j, none⟩) (unhide HGe) (.int .i64 ((t : Int) + 1))
                have hbG : b ≠ G2 := by
                  obtain ⟨b3, o3, e, h3, _⟩ := (unhide HA).2.2 (by omega)
                  injection e with e
                  injection e with e
                  have := unhide HGe
                  omega
                have c3 : (wr.setCell ⟨G2, j, none⟩ (.int .i64 ((t : Int) + 1))).cell? ⟨b, o + y, none⟩ = some (.int .i64 (nx y)) := by
                  rw [World.cell?_setCell_other _ _ _ _ (fun e => by injection e with e1 _; exact hbG e1.symm)]; exact c0
                obtain ⟨W3, hW3⟩ : ∃ V, wr.setCell ⟨G2, j, none⟩ (.int .i64 ((t : Int) + 1)) = V := ⟨_, rfl⟩
                rw [hW3] at O3 B3 c3
                have O3' : OwnI W3 G2 n' (updI (fun y => if y < j then (lv nx n' y : Int) else 0) j ((t + 1 : Nat) : Int)) := O3.congr (fun z _ => by
                  unfold updI
                  by_cases c : z = j
                  · rw [if_pos c, if_pos c]; omega
                  · rw [if_neg c, if_neg c, if_neg c])
                have hcn3 := O3'.cellN hlt2
                rw [show updI (fun y => if y < j then (lv nx n' y : Int) else 0) j ((t + 1 : Nat) : Int) j = ((t + 1 : Nat) : Int) by unfold updI; rw [if_pos rfl]] at hcn3
                have HO3 := hide O3'
                have HB3 := hide B3
                have HCN : Hid (cellN wr G2 j = t ∧ cellN W3 G2 j = t + 1) := ⟨by rw [hcn]; omega, by rw [hcn3]; omega⟩
                have htn : t + 1 ≤ n' := by rw [hle, hstep] at hlev; omega
                have HLE : Hid (lv nx n' j = (t + 1) + lvl nx (n' + 1 - (t + 1)) (nx y)) := by
                  show lv nx n' j = _
                  rw [hle, hstep, show n' + 1 - (t + 1) = n' - t by omega]
                  omega
                have HNG := hide hng
                clear hc hO2 hb2 O3 B3 O3' hcn hcn3 hstep hle hng hlev
                go_wp2
                have h1 := unhide HCN
                exact ⟨⟨t + 1, nx y, rfl, htn, (unhide HNG).1, (unhide HNG).2, unhide HLE, unhide HO3, unhide HB3⟩, by rw [h1.1, h1.2]; omega⟩
              · have e4 : ¬ (0 : Int) ≤ x := hx
                have hlv : lv nx n' j = t := by rw [hle, lvl_neg nx (by omega)]; rfl
                have HF : Hid (OwnI wr G2 n' (fun y => if y < j + 1 then (lv nx n' y : Int) else 0)) := hO2.congr (fun y _ => by
                  unfold updI
                  by_cases c : y = j
                  · rw [if_pos c, if_pos (by omega), c, hlv]
                  · rw [if_neg c]
                    show (if y < j then (lv nx n' y : Int) else 0) = _
                    by_cases c2 : y < j
                    · rw [if_pos c2, if_pos (by omega)]
                    · rw [if_neg c2, if_neg (by omega)])
                have HB2 := hide hb2
                have e5 : IntKind.i64.wrap ((j : Int) + 1) = (j : Int) + 1 := by rw [IntKind.wrap_i64]; omega
                clear hO2 hb2 hle hlv hcn hx0 hx1 hlev
                go_wp2_with fail
                (try simp only [Exit.inBlock, Exit.then])
                (try go_wp2_with fail)
                exact ⟨⟨j + 1, by go_num, hlt2, unhide HF, unhide HB2⟩, by simp [intOf]; omega⟩
          · obtain rfl : j = n' := by omega
            have e3 : ¬ (j : Int) < (j : Int) := by omega
            have HO : Hid (OwnI wr G2 j (fun y => (lv nx j y : Int))) := hO.congr (fun y hy => by rw [if_pos hy])
            have HB := hide hb
            obtain ⟨n3, hn3⟩ : ∃ x, x = j := ⟨_, rfl⟩
            subst hn3
            obtain ⟨wq, hwq⟩ : ∃ V, V = wr := ⟨_, rfl⟩
            subst hwq
            clear hO hb
            go_wp2_with fail
            (try simp only [Exit.inBlock, Exit.then])
            (try go_wp2_with fail)
            go_loopw [14, 15] (fun vb vq wv => ∃ q : Nat, vq = .int .i64 (q : Int) ∧ vb = .int .i64 (best n3 M (lv nx n3) q : Int) ∧ q ≤ n3 + 1 ∧ best n3 M (lv nx n3) q ≤ 1000 ∧ wv = wq) (fun _ vq _ => n3 + 1 - (intOf vq).toNat)
            case atStart => exact ⟨0, rfl, rfl, Nat.zero_le _, Nat.zero_le _, rfl⟩
            case round =>
              obtain ⟨q, rfl, rfl, hq, hbd, hwr⟩ := hrel
              have hwr := hwr.symm
              subst hwr
              by_cases hltq : q ≤ n3
              · have e4 : (q : Int) ≤ (n3 : Int) := by omega
                have HBD := hide hbd
                have F1 : Hid (best n3 M (lv nx n3) (q + 1) = max (best n3 M (lv nx n3) q) (up (cn (gt (lv nx n3) q) n3) M + q * min (cn (gt (lv nx n3) q) n3) 1)) := rfl
                obtain ⟨bv, hbv⟩ : ∃ b, best n3 M (lv nx n3) q = b := ⟨_, rfl⟩
                rw [hbv] at F1 HBD ⊢
                clear hbd hbv
                go_wp2_with fail
                go_loopw [16, 17] (fun vm vk wv => ∃ k : Nat, vk = .int .i64 (k : Int) ∧ vm = .int .i64 (cn (gt (lv nx n3) q) k : Int) ∧ k ≤ n3 ∧ wv = wq) (fun _ vk _ => n3 - (intOf vk).toNat)
                case atStart => exact ⟨0, rfl, rfl, Nat.zero_le _, rfl⟩
                case round =>
                  obtain ⟨k, rfl, rfl, hk, hwr⟩ := hrel
                  have hwr := hwr.symm
                  subst hwr
                  by_cases hltk : k < n3
                  · have c0 := (unhide HO).cell hltk
                    have hcs := cn_succ (gt (lv nx n3) q) k
                    have hcl := cn_le (gt (lv nx n3) q) k
                    obtain ⟨v, hv⟩ : ∃ v, cn (gt (lv nx n3) q) k = v := ⟨_, rfl⟩
                    rw [hv] at hcs hcl ⊢
                    have e5 : (0 : Int) ≤ (k : Int) := by omega
                    have e6 : (k : Int) < (n3 : Int) := by omega
                    have e7 : IntKind.i64.wrap ((k : Int) + 1) = (k : Int) + 1 := by rw [IntKind.wrap_i64]; omega
                    have e8 : IntKind.i64.wrap ((v : Int) + 1) = (v : Int) + 1 := by rw [IntKind.wrap_i64]; omega
                    obtain ⟨y, hy⟩ : ∃ y, lv nx n3 k = y := ⟨_, rfl⟩
                    rw [hy] at c0
                    by_cases hqy : q < y
                    · have e9 : (q : Int) < (y : Int) := by omega
                      have HCS : Hid (cn (gt (lv nx n3) q) (k + 1) = v + 1) := by show cn _ _ = _; rw [hcs, if_pos (by unfold gt; rw [hy]; exact decide_eq_true hqy)]
                      clear hcs hv hy
                      go_wp2
                      exact ⟨⟨k + 1, by go_num, by rw [unhide HCS]; go_num, hltk, trivial⟩, by simp [intOf]; omega⟩
                    · have e9 : ¬ (q : Int) < (y : Int) := by omega
                      have HCS : Hid (cn (gt (lv nx n3) q) (k + 1) = v) := by show cn _ _ = _; rw [hcs, if_neg (by unfold gt; rw [hy, decide_eq_true_eq]; exact hqy)]; rfl
                      clear hcs hv hy
                      go_wp2
                      exact ⟨⟨k + 1, by go_num, by rw [unhide HCS], hltk, trivial⟩, by simp [intOf]; omega⟩
                  · obtain rfl : k = n3 := by omega
                    have e5 : ¬ (k : Int) < (k : Int) := by omega
                    have hcl := cn_le (gt (lv nx k) q) k
                    obtain ⟨v, hv⟩ : ∃ v, cn (gt (lv nx k) q) k = v := ⟨_, rfl⟩
                    rw [hv] at hcl F1 ⊢
                    have hbd := unhide HBD
                    obtain ⟨s1, hs1⟩ : ∃ s : Nat, v + M = s := ⟨_, rfl⟩
                    obtain ⟨s2, hs2⟩ : ∃ s : Nat, s1 - 1 = s := ⟨_, rfl⟩
                    have e6 : IntKind.i64.wrap ((v : Int) + (M : Int)) = (s1 : Int) := by rw [IntKind.wrap_i64]; omega
                    have e7 : IntKind.i64.wrap ((s1 : Int) - 1) = (s2 : Int) := by rw [IntKind.wrap_i64]; omega
                    have e8 : ((M : Int) == 0) = false := by rw [beq_eq_false_iff_ne]; omega
                    obtain ⟨d, hd⟩ : ∃ d, up v M = d := ⟨_, rfl⟩
                    have hd' : (s2 : Int).tdiv (M : Int) = (d : Int) := by
                      rw [Int.tdiv_eq_ediv_of_nonneg (by omega), ← hd]
                      unfold up
                      rw [show v + M - 1 = s2 by omega]
                      exact (Int.natCast_ediv s2 M).symm
                    have hdl : d ≤ 100 := by
                      rw [← hd]
                      unfold up
                      exact Nat.le_trans (Nat.div_le_self _ _) (by omega)
                    have e9 : IntKind.i64.wrap (d : Int) = (d : Int) := by rw [IntKind.wrap_i64]; omega
                    obtain ⟨mn, hmn⟩ : ∃ x, min v 1 = x := ⟨_, rfl⟩
                    have e10 : (if (1 : Int) < (v : Int) then (1 : Int) else (v : Int)) = (mn : Int) := by split <;> omega
                    have hmn1 : mn ≤ 1 := by omega
                    obtain ⟨pr, hpr⟩ : ∃ x, q * mn = x := ⟨_, rfl⟩
                    have hpr1 : pr ≤ q := by
                      rw [← hpr]
                      exact Nat.le_trans (Nat.mul_le_mul_left q hmn1) (by omega)
                    have e11 : IntKind.i64.wrap ((q : Int) * (mn : Int)) = (pr : Int) := by
                      rw [← Int.natCast_mul, hpr, IntKind.wrap_i64]; omega
                    have e12 : IntKind.i64.wrap ((d : Int) + (pr : Int)) = (d : Int) + (pr : Int) := by rw [IntKind.wrap_i64]; omega
                    rw [hd, hmn, hpr] at F1
                    obtain ⟨mx, hmx⟩ : ∃ x, max bv (d + pr) = x := ⟨_, rfl⟩
                    rw [hmx] at F1
                    have e13 : (if (bv : Int) < (d : Int) + (pr : Int) then (d : Int) + (pr : Int) else (bv : Int)) = (mx : Int) := by split <;> omega
                    have HMX : Hid (mx ≤ 1000) := by show mx ≤ 1000; omega
                    have e14 : IntKind.i64.wrap ((q : Int) + 1) = (q : Int) + 1 := by rw [IntKind.wrap_i64]; omega
                    clear hv hs1 hs2 hd hmn hpr hmx hbd
                    go_wp2_with fail
                    (try simp only [Exit.inBlock, Exit.then])
                    (try go_wp2_with fail)
                    exact ⟨⟨q + 1, by go_num, by rw [unhide F1], by omega, by rw [unhide F1]; exact unhide HMX, trivial⟩, by simp [intOf]; omega⟩
              · obtain rfl : q = n3 + 1 := by omega
                have e4 : ¬ ((n3 + 1 : Nat) : Int) ≤ (n3 : Int) := by omega
                have e4' : ¬ ((n3 : Int) + 1) ≤ (n3 : Int) := by omega
                have e5 : ((E : Int) == (E : Int)) = true := by simp
                rw [← unhide HBEST]
                clear hbd
                go_wp2
                (try simp only [Exit.inBlock, Exit.then])
                (try go_wp2)
                go_ret
                exact ⟨rfl, unhide HB⟩
end Go.Proofs.Ytepgdlgifempeaa
