/- Kinds of calls: rows of them, and the loads by size. -/
import Derived.Test.YtigilnkcjblhcaaDoorQ14
namespace Go.Proofs.YtigilnkcjblhcaaDoor
open Go.RowKit Go.Sort Go.Shelf

/-- A row of kinds: a load and a size each. -/
def KindsAre (w : World) (v : Value) (ks : List (Rat × Int)) : Prop := ∃ (a : Option Addr) (c : Nat), v = .slice a ks.length c ∧ ks.length ≤ c ∧ c ≤ 9223372036854775807 ∧
  (0 < ks.length → ∃ b o, a = some ⟨b, o, none⟩ ∧ b < w.heap.size ∧ ∀ j, j < ks.length → ∃ t : Tri, (w.cell? ⟨b, o + j * 4, none⟩ = some (.bool t.s) ∧ w.cell? ⟨b, o + j * 4 + 1, none⟩ = some (.slice t.a1 t.n1 t.c1) ∧ w.cell? ⟨b, o + j * 4 + 2, none⟩ = some (.slice t.a2 t.n2 t.c2) ∧ w.cell? ⟨b, o + j * 4 + 3, none⟩ = some (.int .i64 (ks[j]!).2)) ∧ RatIs w t.val (ks[j]!).1)
theorem KindsAre.below {w w' : World} {v : Value} {ks : List (Rat × Int)} (h : KindsAre w v ks) (hb : Below w.heap.size w w') : KindsAre w' v ks := by
  obtain ⟨a, c, e, h1, h2, h3⟩ := h
  refine ⟨a, c, e, h1, h2, fun hp => ?_⟩
  obtain ⟨b, o, ea, hlt, hc⟩ := h3 hp
  refine ⟨b, o, ea, Nat.lt_of_lt_of_le hlt hb.size, fun j hj => ?_⟩
  obtain ⟨t, ⟨c0, c1, c2, c3⟩, r⟩ := hc j hj
  refine ⟨t, ?_, r.below hb⟩
  rw [hb.cell (p := ⟨b, o + j * 4, none⟩) hlt, hb.cell (p := ⟨b, o + j * 4 + 1, none⟩) hlt, hb.cell (p := ⟨b, o + j * 4 + 2, none⟩) hlt, hb.cell (p := ⟨b, o + j * 4 + 3, none⟩) hlt]
  exact ⟨c0, c1, c2, c3⟩
/-- A kind's box. -/
def KBox (w : World) (b : Nat) (t : Tri) (q : Rat) (s : Int) : Prop := w.heap[b]? = some (.cells #[.bool t.s, .slice t.a1 t.n1 t.c1, .slice t.a2 t.n2 t.c2, .int .i64 s] 56) ∧ RatIs w t.val q
theorem KBox.new {w : World} {t : Tri} {q : Rat} (s : Int) (h : RatIs w t.val q) : KBox (w.alloc (.cells #[.bool t.s, .slice t.a1 t.n1 t.c1, .slice t.a2 t.n2 t.c2, .int .i64 s] 56)) w.heap.size t q s := ⟨heap_alloc_new w _, h.below (alloc_below w _)⟩
theorem KBox.lt {w : World} {b : Nat} {t : Tri} {q : Rat} {s : Int} (h : KBox w b t q s) : b < w.heap.size := (Array.getElem?_eq_some_iff.1 h.1).1
theorem KBox.keep {w w' : World} {b : Nat} {t : Tri} {q : Rat} {s : Int} (h : KBox w b t q s) (hb : Below w.heap.size w w') : KBox w' b t q s := ⟨by rw [hb.block _ h.lt]; exact h.1, h.2.below hb⟩
theorem KBox.cells {w : World} {b : Nat} {t : Tri} {q : Rat} {s : Int} (h : KBox w b t q s) : ∀ W', Below w.heap.size w W' → W'.cell? ⟨b, 0, none⟩ = some (.bool t.s) ∧ W'.cell? ⟨b, 1, none⟩ = some (.slice t.a1 t.n1 t.c1) ∧ W'.cell? ⟨b, 2, none⟩ = some (.slice t.a2 t.n2 t.c2) ∧ W'.cell? ⟨b, 3, none⟩ = some (.int .i64 s) := fun W' hb => by
  have h' := (h.keep hb).1
  simp [World.cell?, h']

/-- The loads by size, of the first k kinds. -/
def ldl (ks : List (Rat × Int)) (L : Nat) : Nat → List Rat
  | 0 => List.replicate (L + 1) 0
  | k + 1 => if (ks[k]!).2 ≤ (L : Int) then (ldl ks L k).set (ks[k]!).2.toNat ((ldl ks L k)[(ks[k]!).2.toNat]! + (ks[k]!).1 * (((ks[k]!).2 : Int) : Rat)) else ldl ks L k
theorem ldl_length (ks : List (Rat × Int)) (L : Nat) : ∀ k, (ldl ks L k).length = L + 1
  | 0 => List.length_replicate
  | k + 1 => by unfold ldl; split; rw [List.length_set]; exact ldl_length ks L k; exact ldl_length ks L k
theorem ldl_zero (ks : List (Rat × Int)) (L : Nat) {j : Nat} (h : j < L + 1) : (ldl ks L 0)[j]! = 0 := by
  show (List.replicate (L + 1) (0 : Rat))[j]! = 0
  simp [h]
theorem set_get {l : List Rat} {i j : Nat} {x : Rat} (h : j < l.length) : (l.set i x)[j]! = if i = j then x else l[j]! := by
  by_cases e : i = j
  · subst e; rw [if_pos rfl]; simp [h]
  · rw [if_neg e, List.getElem!_eq_getElem?_getD, List.getElem!_eq_getElem?_getD, List.getElem?_set_ne e]
/-- Kinds that may be. -/
def OkK (ks : List (Rat × Int)) : Prop := ∀ j, j < ks.length → 0 ≤ (ks[j]!).1.num ∧ 1 ≤ (ks[j]!).2 ∧ (ks[j]!).2 ≤ 100
theorem ldl_nn {ks : List (Rat × Int)} (ok : OkK ks) (L : Nat) : ∀ k, k ≤ ks.length → ∀ j, j < L + 1 → 0 ≤ (ldl ks L k)[j]!
  | 0, _, j, hj => by rw [ldl_zero ks L hj]; decide
  | k + 1, hk, j, hj => by
    have ih := ldl_nn ok L k (by omega)
    unfold ldl
    split
    · next hc =>
      rw [set_get (by rw [ldl_length]; exact hj)]
      split
      · next e =>
        have ⟨o1, o2, o3⟩ := ok k (by omega)
        exact Rat.add_nonneg (ih _ (by omega)) (Rat.mul_nonneg (Rat.num_nonneg.1 o1) (Rat.intCast_nonneg.2 (by omega)))
      · exact ih j hj
    · exact ih j hj
theorem size_RS {x : Int} (h1 : 1 ≤ x) (h2 : x ≤ 100) : RS ((x : Int) : Rat) 1 := by
  have e : Wd.pw 1 = 18446744073709551616 := Wd.pw_one
  refine ⟨?_, ?_⟩
  · rw [e]; show ((x.natAbs : Nat) : Int) < _; omega
  · rw [e]; show ((1 : Nat) : Int) < _; decide
theorem ldl_RS {ks : List (Rat × Int)} (ok : OkK ks) (hr : ∀ j, j < ks.length → RS (ks[j]!).1 1) (L : Nat) : ∀ k, k ≤ ks.length → ∀ j, j < L + 1 → RS (ldl ks L k)[j]! (3 * k + 1)
  | 0, _, j, hj => by rw [ldl_zero ks L hj]; exact RS.zero
  | k + 1, hk, j, hj => by
    have ih := ldl_RS ok hr L k (by omega)
    unfold ldl
    split
    · next hc =>
      rw [set_get (by rw [ldl_length]; exact hj)]
      have ⟨o1, o2, o3⟩ := ok k (by omega)
      split
      · exact (RS.add (ih _ (by omega)) (RS.mul (hr k (by omega)) (size_RS o2 o3))).mono (by omega)
      · exact (ih j hj).mono (by omega)
    · exact (ih j hj).mono (by omega)

set_option maxHeartbeats 8000000 in
set_option maxRecDepth 100000 in
set_option linter.unusedSimpArgs false in
theorem loads_any (v : Value) (ks : List (Rat × Int)) (L : Nat) (w : World) (h : KindsAre w v ks) (ok : OkK ks) (hr : ∀ j, j < ks.length → RS (ks[j]!).1 1) (hl : ks.length ≤ 6) (hL : L ≤ 12) :
    Calls Tryd.prog 42 #[v, .int .i64 (L : Int)] w fun e w' => ∃ v, e = .returned v ∧ LawIs w' v (ldl ks L ks.length) ∧ Below w.heap.size w w' := by
  have KKe : KK = 1099511627776 := rfl
  obtain ⟨a, c, rfl, h1, h2, h3⟩ := h
  have H3 := hide h3
  have HOK := hide ok
  have HR := hide hr
  have qmk := make_ratios ((L : Int) + 1) (by omega) (by omega) w
  rw [show ((L : Int) + 1).toNat = L + 1 by omega] at qmk
  have S0 := SumsAt.start w w (L + 1) (Below.refl _ _)
  obtain ⟨W0, hW0⟩ : ∃ W, w.alloc (.cells (tcells (List.replicate (L + 1) zTri)).toArray 34) = W := ⟨_, rfl⟩
  obtain ⟨G, hG⟩ : ∃ G, w.heap.size = G := ⟨_, rfl⟩
  rw [hW0, hG] at qmk S0
  have HS0 : Hid (SumsAt w W0 G (List.replicate (L + 1) zTri) (ldl ks L 0)) := S0
  have e4 : IntKind.i64.wrap ((L : Int) + 1) = (L : Int) + 1 := by rw [IntKind.wrap_i64]; omega
  clear h3 S0 hW0 hG ok hr
  go_enter Tryd.func42, Tryd.ntmps42
  go_wp2_with fail
  clear qmk
  go_loopw [13] (fun vi wr => ∃ (i : Nat) (us : List Tri), vi = .int .i64 (i : Int) ∧ i ≤ ks.length ∧ SumsAt w wr G us (ldl ks L i)) (fun vi _ => ks.length - (intOf vi).toNat)
  case atStart => exact ⟨0, _, rfl, Nat.zero_le _, unhide HS0⟩
  case round =>
    obtain ⟨i, us, rfl, hi, S⟩ := hrel
    have hul : us.length = L + 1 := by rw [S.len, ldl_length]
    clear HS0
    by_cases hlt : i < ks.length
    · obtain ⟨b, o, rfl, hblt, hcs⟩ := unhide H3 (by omega)
      obtain ⟨tk, ⟨k0, k1, k2, k3⟩, kr⟩ := hcs i hlt
      have ⟨ok1, ok2, ok3⟩ := unhide HOK i hlt
      have hrs := unhide HR i hlt
      have EL : ldl ks L (i + 1) = if (ks[i]!).2 ≤ (L : Int) then (ldl ks L i).set (ks[i]!).2.toNat ((ldl ks L i)[(ks[i]!).2.toNat]! + (ks[i]!).1 * (((ks[i]!).2 : Int) : Rat)) else ldl ks L i := rfl
      have RL := ldl_RS (unhide HOK) (unhide HR) L i (by omega)
      obtain ⟨q, hq⟩ : ∃ q, (ks[i]!).1 = q := ⟨_, rfl⟩
      obtain ⟨z, hz⟩ : ∃ z : Nat, (ks[i]!).2 = (z : Int) := ⟨(ks[i]!).2.toNat, by omega⟩
      rw [hq] at kr hrs EL
      rw [hz] at k3 ok2 ok3 EL
      rw [Int.toNat_natCast] at EL
      rw [← S.bl.cell (p := ⟨b, o + i * 4, none⟩) hblt] at k0
      rw [← S.bl.cell (p := ⟨b, o + i * 4 + 1, none⟩) hblt] at k1
      rw [← S.bl.cell (p := ⟨b, o + i * 4 + 2, none⟩) hblt] at k2
      rw [← S.bl.cell (p := ⟨b, o + i * 4 + 3, none⟩) hblt] at k3
      have Y0 := KBox.new (z : Int) (kr.below S.bl)
      have bA := alloc_below wr (.cells #[.bool tk.s, .slice tk.a1 tk.n1 tk.c1, .slice tk.a2 tk.n2 tk.c2, .int .i64 (z : Int)] 56)
      have S1 := S.keep bA
      have hGg : G < wr.heap.size := (Array.getElem?_eq_some_iff.1 S.row).1
      obtain ⟨W2, hW2⟩ : ∃ W, wr.alloc (.cells #[.bool tk.s, .slice tk.a1 tk.n1 tk.c1, .slice tk.a2 tk.n2 tk.c2, .int .i64 (z : Int)] 56) = W := ⟨_, rfl⟩
      obtain ⟨bk, hbk⟩ : ∃ g, wr.heap.size = g := ⟨_, rfl⟩
      rw [hW2] at Y0 S1
      rw [hbk] at Y0 hGg
      have HS1 := hide S1
      have HY1 := hide Y0
      have e1 : (i : Int) < (ks.length : Int) := by omega
      have e0 : (0 : Int) ≤ (i : Int) := by omega
      have ⟨c0, c1, c2, c3⟩ := Y0.cells _ (Below.refl _ _)
      have HEL := hide EL
      have HRL := hide RL
      have HRQ := hide hrs
      clear S Y0 S1 bA kr hcs hq hz EL RL hrs ok1
      by_cases hzL : z ≤ L
      · obtain ⟨sk0, _⟩ := (unhide HS1).cells z (by omega)
        have rk := (unhide HS1).rat z (by omega)
        obtain ⟨ty, hty⟩ : ∃ t, us[z]! = t := ⟨_, rfl⟩
        rw [hty] at sk0 rk
        have hGlt : G < W2.heap.size := (Array.getElem?_eq_some_iff.1 (unhide HS1).row).1
        have HCC : Hid (∀ W, Below W2.heap.size W2 W → (fun w' : World => (w'.cell? ⟨bk, 0, none⟩ = some (.bool tk.s) ∧ w'.cell? ⟨bk, 1, none⟩ = some (.slice tk.a1 tk.n1 tk.c1) ∧ w'.cell? ⟨bk, 2, none⟩ = some (.slice tk.a2 tk.n2 tk.c2) ∧ w'.cell? ⟨bk, 3, none⟩ = some (.int .i64 (z : Int))) ∧ (w'.cell? ⟨G, z * 3, none⟩ = some (.bool ty.s) ∧ w'.cell? ⟨G, z * 3 + 1, none⟩ = some (.slice ty.a1 ty.n1 ty.c1) ∧ w'.cell? ⟨G, z * 3 + 2, none⟩ = some (.slice ty.a2 ty.n2 ty.c2))) W) := fun W hW => by
          refine ⟨(unhide HY1).cells W hW, ?_⟩
          rw [hW.cell (p := ⟨G, z * 3, none⟩) hGlt, hW.cell (p := ⟨G, z * 3 + 1, none⟩) hGlt, hW.cell (p := ⟨G, z * 3 + 2, none⟩) hGlt]
          exact sk0
        have HRY := hide rk
        have hrz := size_RS ok2 ok3
        have HRZ := hide hrz
        have HWH : Hid (∀ W, Calls Tryd.prog 12 #[.int .i64 (z : Int)] W fun e w' => ∃ v, e = .returned v ∧ RatIs w' v (((z : Int) : Int) : Rat) ∧ Below W.heap.size W w') := fun W => whole_any (z : Int) (by omega) (by omega) W
        have HMU : Hid (∀ W v (hW : Below W2.heap.size W2 W) (hv : RatIs W v (((z : Int) : Int) : Rat)), Calls Tryd.prog 10 #[.agg #[.bool tk.s, .slice tk.a1 tk.n1 tk.c1, .slice tk.a2 tk.n2 tk.c2], v] W fun e w' => ∃ v, e = .returned v ∧ RatIs w' v (q * (((z : Int) : Int) : Rat)) ∧ Below W.heap.size W w') := fun W v hW hv => mulR_any _ v _ _ W ((unhide HY1).2.below hW) hv 1 (unhide HRQ) (unhide HRZ) (by rw [KKe]; omega)
        have HAD : Hid (∀ W v (hW : Below W2.heap.size W2 W) (hv : RatIs W v (q * (((z : Int) : Int) : Rat))), Calls Tryd.prog 20 #[.agg #[.bool ty.s, .slice ty.a1 ty.n1 ty.c1, .slice ty.a2 ty.n2 ty.c2], v] W fun e w' => ∃ v, e = .returned v ∧ RatIs w' v ((ldl ks L i)[z]! + q * (((z : Int) : Int) : Rat)) ∧ Below W.heap.size W w') := fun W v hW hv => addR_any _ v _ _ W ((unhide HRY).below hW) hv 30 ((unhide HRL z (by omega)).mono (by omega)) ((RS.mul (unhide HRQ) (unhide HRZ)).mono (by omega)) (by rw [KKe]; omega)
        have j1 : (z : Int) ≤ (L : Int) := by omega
        have j2 : (0 : Int) ≤ (z : Int) := by omega
        have j3 : (z : Int) < (L : Int) + 1 := by omega
        clear rk sk0 hty hrz ok2 ok3
        go_wp2_with fail
        clear hW2 hbk k0 k1 k2 k3 c0 c1 c2 c3
        refine wp_region_till (fun w' : World => (w'.cell? ⟨bk, 0, none⟩ = some (.bool tk.s) ∧ w'.cell? ⟨bk, 1, none⟩ = some (.slice tk.a1 tk.n1 tk.c1) ∧ w'.cell? ⟨bk, 2, none⟩ = some (.slice tk.a2 tk.n2 tk.c2) ∧ w'.cell? ⟨bk, 3, none⟩ = some (.int .i64 (z : Int))) ∧ (w'.cell? ⟨G, z * 3, none⟩ = some (.bool ty.s) ∧ w'.cell? ⟨G, z * 3 + 1, none⟩ = some (.slice ty.a1 ty.n1 ty.c1) ∧ w'.cell? ⟨G, z * 3 + 2, none⟩ = some (.slice ty.a2 ty.n2 ty.c2))) 16 (by kernel_rfl) ?_
        have bd0 : Below W2.heap.size W2 W2.drew := (Below.refl _ _).drew
        have hC0 : (fun w' : World => (w'.cell? ⟨bk, 0, none⟩ = some (.bool tk.s) ∧ w'.cell? ⟨bk, 1, none⟩ = some (.slice tk.a1 tk.n1 tk.c1) ∧ w'.cell? ⟨bk, 2, none⟩ = some (.slice tk.a2 tk.n2 tk.c2) ∧ w'.cell? ⟨bk, 3, none⟩ = some (.int .i64 (z : Int))) ∧ (w'.cell? ⟨G, z * 3, none⟩ = some (.bool ty.s) ∧ w'.cell? ⟨G, z * 3 + 1, none⟩ = some (.slice ty.a1 ty.n1 ty.c1) ∧ w'.cell? ⟨G, z * 3 + 2, none⟩ = some (.slice ty.a2 ty.n2 ty.c2))) W2.drew := unhide HCC _ bd0
        refine wpTill_pure (i := 0) (v := ?_) rfl (by kernel_rfl) (by kernel_rfl) (by kernel_rfl) (by kernel_rfl) (fun _ _ _ h => h) (Or.inl ⟨by rfl, ?_⟩) (fun _ => hC0) ?_
        rotate_left
        · intro w hSw; clear hSw; go_simp; (try with_reducible rfl)
        (try simp only [List.getElem_toArray, List.getElem_cons_succ, List.getElem_cons_zero])
        (try simp only [Act.put, List.setIfInBounds_toArray, List.set_cons_zero, List.set_cons_succ])
        refine wpTill_pure (i := 1) (v := ?_) rfl (by kernel_rfl) (by kernel_rfl) (by kernel_rfl) (by kernel_rfl) (fun _ _ _ h => h) (Or.inl ⟨by rfl, ?_⟩) (fun _ => hC0) ?_
        rotate_left
        · intro w hSw; clear hSw; go_simp; (try with_reducible rfl)
        (try simp only [List.getElem_toArray, List.getElem_cons_succ, List.getElem_cons_zero])
        (try simp only [Act.put, List.setIfInBounds_toArray, List.set_cons_zero, List.set_cons_succ])
        refine wpTill_take (i := 2) (v := ?_) rfl (by kernel_rfl) (by kernel_rfl) (by kernel_rfl) (by kernel_rfl) (by kernel_rfl) (by kernel_rfl) (fun _ _ _ h => h) (Or.inl ⟨by rfl, ?_⟩) hC0 ?_
        rotate_left
        · intro w hSw; (try dsimp only at hSw); obtain ⟨⟨z0, z1, z2, z3⟩, z4, z5, z6⟩ := hSw; go_simp; (try with_reducible rfl)
        (try simp only [List.getElem_toArray, List.getElem_cons_succ, List.getElem_cons_zero])
        (try simp only [Act.put, List.setIfInBounds_toArray, List.set_cons_zero, List.set_cons_succ])
        refine wpTill_pure (i := 3) (v := ?_) rfl (by kernel_rfl) (by kernel_rfl) (by kernel_rfl) (by kernel_rfl) (fun _ _ _ h => h) (Or.inl ⟨by rfl, ?_⟩) (fun _ => hC0) ?_
        rotate_left
        · intro w hSw; clear hSw; go_simp; (try with_reducible rfl)
        (try simp only [List.getElem_toArray, List.getElem_cons_succ, List.getElem_cons_zero])
        (try simp only [Act.put, List.setIfInBounds_toArray, List.set_cons_zero, List.set_cons_succ])
        refine wpTill_pure (i := 4) (v := ?_) rfl (by kernel_rfl) (by kernel_rfl) (by kernel_rfl) (by kernel_rfl) (fun _ _ _ h => h) (Or.inl ⟨by rfl, ?_⟩) (fun _ => hC0) ?_
        rotate_left
        · intro w hSw; clear hSw; go_simp; (try with_reducible rfl)
        (try simp only [List.getElem_toArray, List.getElem_cons_succ, List.getElem_cons_zero])
        (try simp only [Act.put, List.setIfInBounds_toArray, List.set_cons_zero, List.set_cons_succ])
        refine wpTill_take (i := 5) (v := ?_) rfl (by kernel_rfl) (by kernel_rfl) (by kernel_rfl) (by kernel_rfl) (by kernel_rfl) (by kernel_rfl) (fun _ _ _ h => h) (Or.inl ⟨by rfl, ?_⟩) hC0 ?_
        rotate_left
        · intro w hSw; (try dsimp only at hSw); obtain ⟨⟨z0, z1, z2, z3⟩, z4, z5, z6⟩ := hSw; go_simp; (try with_reducible rfl)
        (try simp only [List.getElem_toArray, List.getElem_cons_succ, List.getElem_cons_zero])
        (try simp only [Act.put, List.setIfInBounds_toArray, List.set_cons_zero, List.set_cons_succ])
        refine wpTill_pure (i := 6) (v := ?_) rfl (by kernel_rfl) (by kernel_rfl) (by kernel_rfl) (by kernel_rfl) (fun _ _ _ h => h) (Or.inl ⟨by rfl, ?_⟩) (fun _ => hC0) ?_
        rotate_left
        · intro w hSw; clear hSw; go_simp; (try with_reducible rfl)
        (try simp only [List.getElem_toArray, List.getElem_cons_succ, List.getElem_cons_zero])
        (try simp only [Act.put, List.setIfInBounds_toArray, List.set_cons_zero, List.set_cons_succ])
        refine wpTill_take (i := 7) (v := ?_) rfl (by kernel_rfl) (by kernel_rfl) (by kernel_rfl) (by kernel_rfl) (by kernel_rfl) (by kernel_rfl) (fun _ _ _ h => h) (Or.inl ⟨by rfl, ?_⟩) hC0 ?_
        rotate_left
        · intro w hSw; (try dsimp only at hSw); obtain ⟨⟨z0, z1, z2, z3⟩, z4, z5, z6⟩ := hSw; go_simp; (try with_reducible rfl)
        (try simp only [List.getElem_toArray, List.getElem_cons_succ, List.getElem_cons_zero])
        (try simp only [Act.put, List.setIfInBounds_toArray, List.set_cons_zero, List.set_cons_succ])
        refine wpTill_pure (i := 8) (v := ?_) rfl (by kernel_rfl) (by kernel_rfl) (by kernel_rfl) (by kernel_rfl) (fun _ _ _ h => h) (Or.inl ⟨by rfl, ?_⟩) (fun _ => hC0) ?_
        rotate_left
        · intro w hSw; clear hSw; go_simp; (try with_reducible rfl)
        (try simp only [List.getElem_toArray, List.getElem_cons_succ, List.getElem_cons_zero])
        (try simp only [Act.put, List.setIfInBounds_toArray, List.set_cons_zero, List.set_cons_succ])
        refine wpTill_take (i := 9) (v := ?_) rfl (by kernel_rfl) (by kernel_rfl) (by kernel_rfl) (by kernel_rfl) (by kernel_rfl) (by kernel_rfl) (fun _ _ _ h => h) (Or.inl ⟨by rfl, ?_⟩) hC0 ?_
        rotate_left
        · intro w hSw; (try dsimp only at hSw); obtain ⟨⟨z0, z1, z2, z3⟩, z4, z5, z6⟩ := hSw; go_simp; (try with_reducible rfl)
        (try simp only [List.getElem_toArray, List.getElem_cons_succ, List.getElem_cons_zero])
        (try simp only [Act.put, List.setIfInBounds_toArray, List.set_cons_zero, List.set_cons_succ])
        refine wpTill_pure (i := 10) (v := ?_) rfl (by kernel_rfl) (by kernel_rfl) (by kernel_rfl) (by kernel_rfl) (fun _ _ _ h => h) (Or.inl ⟨by rfl, ?_⟩) (fun _ => hC0) ?_
        rotate_left
        · intro w hSw; clear hSw; go_simp; (try with_reducible rfl)
        (try simp only [List.getElem_toArray, List.getElem_cons_succ, List.getElem_cons_zero])
        (try simp only [Act.put, List.setIfInBounds_toArray, List.set_cons_zero, List.set_cons_succ])
        refine wpTill_take (i := 11) (v := ?_) rfl (by kernel_rfl) (by kernel_rfl) (by kernel_rfl) (by kernel_rfl) (by kernel_rfl) (by kernel_rfl) (fun _ _ _ h => h) (Or.inl ⟨by rfl, ?_⟩) hC0 ?_
        rotate_left
        · intro w hSw; (try dsimp only at hSw); obtain ⟨⟨z0, z1, z2, z3⟩, z4, z5, z6⟩ := hSw; go_simp; (try with_reducible rfl)
        (try simp only [List.getElem_toArray, List.getElem_cons_succ, List.getElem_cons_zero])
        (try simp only [Act.put, List.setIfInBounds_toArray, List.set_cons_zero, List.set_cons_succ])
        refine wpTill_one (k := 12) (by kernel_rfl) rfl (fun K hK => ?_)
        (try simp only [List.getElem_toArray, List.getElem_cons_succ, List.getElem_cons_zero])
        go_simp
        refine (unhide HWH _).mono ?_
        rintro e xw_1 ⟨xv_1, rfl, hv_1, hb_1⟩
        have cc_1 := below_step bd0 hb_1
        have hC_1 : (fun w' : World => (w'.cell? ⟨bk, 0, none⟩ = some (.bool tk.s) ∧ w'.cell? ⟨bk, 1, none⟩ = some (.slice tk.a1 tk.n1 tk.c1) ∧ w'.cell? ⟨bk, 2, none⟩ = some (.slice tk.a2 tk.n2 tk.c2) ∧ w'.cell? ⟨bk, 3, none⟩ = some (.int .i64 (z : Int))) ∧ (w'.cell? ⟨G, z * 3, none⟩ = some (.bool ty.s) ∧ w'.cell? ⟨G, z * 3 + 1, none⟩ = some (.slice ty.a1 ty.n1 ty.c1) ∧ w'.cell? ⟨G, z * 3 + 2, none⟩ = some (.slice ty.a2 ty.n2 ty.c2))) xw_1 := unhide HCC _ cc_1
        refine hK.out _ _ (fun _ => hC_1) ?_
        clear hK K
        (try simp only [Act.put, List.setIfInBounds_toArray, List.set_cons_zero, List.set_cons_succ])
        refine wpTill_one (k := 13) (by kernel_rfl) rfl (fun K hK => ?_)
        (try simp only [List.getElem_toArray, List.getElem_cons_succ, List.getElem_cons_zero])
        go_simp
        refine (unhide HMU _ _ cc_1 hv_1).mono ?_
        rintro e xw_2 ⟨xv_2, rfl, hv_2, hb_2⟩
        have cc_2 := below_step cc_1 hb_2
        have hC_2 : (fun w' : World => (w'.cell? ⟨bk, 0, none⟩ = some (.bool tk.s) ∧ w'.cell? ⟨bk, 1, none⟩ = some (.slice tk.a1 tk.n1 tk.c1) ∧ w'.cell? ⟨bk, 2, none⟩ = some (.slice tk.a2 tk.n2 tk.c2) ∧ w'.cell? ⟨bk, 3, none⟩ = some (.int .i64 (z : Int))) ∧ (w'.cell? ⟨G, z * 3, none⟩ = some (.bool ty.s) ∧ w'.cell? ⟨G, z * 3 + 1, none⟩ = some (.slice ty.a1 ty.n1 ty.c1) ∧ w'.cell? ⟨G, z * 3 + 2, none⟩ = some (.slice ty.a2 ty.n2 ty.c2))) xw_2 := unhide HCC _ cc_2
        refine hK.out _ _ (fun _ => hC_2) ?_
        clear hK K
        (try simp only [Act.put, List.setIfInBounds_toArray, List.set_cons_zero, List.set_cons_succ])
        refine wpTill_one (k := 14) (by kernel_rfl) rfl (fun K hK => ?_)
        (try simp only [List.getElem_toArray, List.getElem_cons_succ, List.getElem_cons_zero])
        go_simp
        refine (unhide HAD _ _ cc_2 hv_2).mono ?_
        rintro e xw_3 ⟨xv_3, rfl, hv_3, hb_3⟩
        have cc_3 := below_step cc_2 hb_3
        have hC_3 : (fun w' : World => (w'.cell? ⟨bk, 0, none⟩ = some (.bool tk.s) ∧ w'.cell? ⟨bk, 1, none⟩ = some (.slice tk.a1 tk.n1 tk.c1) ∧ w'.cell? ⟨bk, 2, none⟩ = some (.slice tk.a2 tk.n2 tk.c2) ∧ w'.cell? ⟨bk, 3, none⟩ = some (.int .i64 (z : Int))) ∧ (w'.cell? ⟨G, z * 3, none⟩ = some (.bool ty.s) ∧ w'.cell? ⟨G, z * 3 + 1, none⟩ = some (.slice ty.a1 ty.n1 ty.c1) ∧ w'.cell? ⟨G, z * 3 + 2, none⟩ = some (.slice ty.a2 ty.n2 ty.c2))) xw_3 := unhide HCC _ cc_3
        refine hK.out _ _ (fun _ => hC_3) ?_
        clear hK K
        (try simp only [Act.put, List.setIfInBounds_toArray, List.set_cons_zero, List.set_cons_succ])
        refine wpTill_pure (i := 15) (v := ?_) rfl (by kernel_rfl) (by kernel_rfl) (by kernel_rfl) (by kernel_rfl) (fun _ _ _ h => h) (Or.inl ⟨by rfl, ?_⟩) (fun _ => hC_3) ?_
        rotate_left
        · intro w hSw; clear hSw; go_simp; (try with_reducible rfl)
        (try simp only [List.getElem_toArray, List.getElem_cons_succ, List.getElem_cons_zero])
        (try simp only [Act.put, List.setIfInBounds_toArray, List.set_cons_zero, List.set_cons_succ])
        obtain ⟨tn, rfl, rn⟩ := tri_of hv_3
        simp only [Tri.val]
        have S2 := (unhide HS1).keep cc_3
        have ⟨⟨y0, y1, y2⟩, l0, l1, l2⟩ := S2.cells z (by omega)
        have FZ := S2.set z (by omega) tn _ rn
        have ee : (ldl ks L i).set z ((ldl ks L i)[z]! + q * (((z : Int) : Int) : Rat)) = ldl ks L (i + 1) := by rw [unhide HEL, if_pos j1]
        rw [ee] at FZ
        obtain ⟨W5, hW5⟩ : ∃ W, ((xw_3.setCell ⟨G, z * 3, none⟩ (.bool tn.s)).setCell ⟨G, z * 3 + 1, none⟩ (.slice tn.a1 tn.n1 tn.c1)).setCell ⟨G, z * 3 + 2, none⟩ (.slice tn.a2 tn.n2 tn.c2) = W := ⟨_, rfl⟩
        rw [hW5] at FZ
        have HFS := hide FZ
        clear S2 FZ ee rn hv_1 hv_2 hv_3 hb_1 hb_2 hb_3
        refine wpTill_one (k := 16) (by kernel_rfl) rfl (fun K hK => ?_)
        (try simp only [List.getElem_toArray, List.getElem_cons_succ, List.getElem_cons_zero])
        go_simp
        refine hK.out _ _ (fun h => absurd (h.symm.trans (by kernel_rfl)) Bool.false_ne_true) ?_
        clear hK K
        (try simp only [Act.put, List.setIfInBounds_toArray, List.set_cons_zero, List.set_cons_succ])
        refine wpTill_done (by kernel_rfl) ?_ _
        clear l0 l1 l2 y0 y1 y2 hW5 hC0 hC_1 hC_2 hC_3 cc_1 cc_2 cc_3 bd0 HCC HWH HMU HAD
        go_wp2_with fail
        exact ⟨⟨i + 1, us.set z tn, by go_num, hlt, unhide HFS⟩, by simp [intOf]; omega⟩
      · have j1 : ¬ (z : Int) ≤ (L : Int) := by omega
        have HFS : Hid (SumsAt w W2 G us (ldl ks L (i + 1))) := by show SumsAt _ _ _ _ _; rw [unhide HEL, if_neg j1]; exact unhide HS1
        clear ok2 ok3
        go_wp2_with fail
        exact ⟨⟨i + 1, us, by go_num, hlt, unhide HFS⟩, by simp [intOf]; omega⟩
    · obtain rfl : i = ks.length := by omega
      have e1 : ¬ (ks.length : Int) < (ks.length : Int) := by omega
      have LW := S.law (by omega)
      have HLW := hide LW
      have HBB := hide S.bl
      rw [hul] at HLW
      clear S LW
      go_wp2
      go_ret
      exact ⟨_, rfl, unhide HLW, unhide HBB⟩
end Go.Proofs.YtigilnkcjblhcaaDoor
