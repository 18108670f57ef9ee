/- Calls that share lines: how likely each number is taken, for one another. -/
import Derived.Test.YtigilnkcjblhcaaDoorQ13
namespace Go.Proofs.YtigilnkcjblhcaaDoor
open Go.RowKit Go.Sort Go.Shelf

/-- Bounds of the words. -/
def ubd (J : Nat) : Nat → Nat
  | 0 => 2
  | n + 1 => 2 * ubd J n + J + 1
def usm (J : Nat) : Nat → Nat
  | 0 => 2
  | n + 1 => usm J n + ubd J n + (J + 1)
theorem usm_le (J : Nat) : ∀ n, usm J n ≤ ubd J n
  | 0 => Nat.le_refl _
  | n + 1 => by have := usm_le J n; show usm J n + ubd J n + (J + 1) ≤ 2 * ubd J n + J + 1; omega
/-- The bound of a sum's first k. -/
def isb (J n : Nat) : Nat → Nat
  | 0 => 1
  | k + 1 => isb J n k + (J + ubd J (n - (k + 1))) + 1
theorem isb_eq (J : Nat) (n : Nat) : ∀ k, k ≤ n → isb J n k + usm J (n - k) = usm J n + 1
  | 0, _ => by show 1 + usm J n = _; omega
  | k + 1, h => by
    have ih := isb_eq J n k (by omega)
    have e : n - k = (n - (k + 1)) + 1 := by omega
    rw [e] at ih
    have e2 : usm J (n - (k + 1) + 1) = usm J (n - (k + 1)) + ubd J (n - (k + 1)) + (J + 1) := rfl
    show isb J n k + (J + ubd J (n - (k + 1))) + 1 + usm J (n - (k + 1)) = _
    omega
theorem isb_le (J n k : Nat) (h : k ≤ n) : isb J n k ≤ ubd J n := by
  have h1 := isb_eq J n k h
  have h2 := usm_le J n
  have h3 : ∀ m, 2 ≤ usm J m := fun m => by
    induction m with
    | zero => exact Nat.le_refl _
    | succ m ih => show 2 ≤ usm J m + ubd J m + (J + 1); omega
  have := h3 (n - k)
  omega
theorem inn_RS {b f : Nat → Rat} {n J : Nat} (hb : ∀ s, s ≤ n → RS (b s) J) (hf : ∀ j, j < n → RS (f j) (ubd J j)) : ∀ k, k ≤ n → RS (Bth.inn b f n k) (isb J n k)
  | 0, _ => RS.zero
  | k + 1, h => by
    have ih := inn_RS hb hf k (by omega)
    exact (RS.add ih (RS.mul (hb (k + 1) h) (hf (n - (k + 1)) (by omega)))).mono (by show _ ≤ isb J n k + (J + ubd J (n - (k + 1))) + 1; omega)
theorem inn_lt {b f : Nat → Rat} {n J : Nat} (hb : ∀ s, s ≤ n → RS (b s) J) (hf : ∀ j, j < n → RS (f j) (ubd J j)) {k : Nat} (h : k ≤ n) : RS (Bth.inn b f n k) (ubd J n - 1) := by
  refine (inn_RS hb hf k h).mono ?_
  have h1 := isb_eq J n k h
  have h2 := usm_le J n
  have h3 : ∀ m, 2 ≤ usm J m := fun m => by
    induction m with
    | zero => exact Nat.le_refl _
    | succ m ih => show 2 ≤ usm J m + ubd J m + (J + 1); omega
  have := h3 (n - k)
  have := h3 n
  omega
theorem ubd_mono (J : Nat) {m n : Nat} (h : m ≤ n) : ubd J m ≤ ubd J n := by
  induction n with
  | zero => rw [show m = 0 by omega]; exact Nat.le_refl _
  | succ n ih =>
    rcases Nat.lt_or_ge n m with h' | h'
    · rw [show m = n + 1 by omega]; exact Nat.le_refl _
    · have := ih h'; show ubd J m ≤ 2 * ubd J n + J + 1; omega
theorem uv_RS {b : Nat → Rat} {J M : Nat} (hM : M ≤ 1000) (hb : ∀ s, s ≤ M → RS (b s) J) (n : Nat) : n ≤ M → RS (Bth.uv b n) (ubd J n) := by
  induction n using Nat.strongRecOn with
  | ind n ih =>
    intro hn
    cases n with
    | zero => rw [Bth.uv_zero]; exact one_RS'.mono (show 1 ≤ 2 by omega)
    | succ n =>
      rw [Bth.uv_succ]
      have h1 := inn_lt (b := b) (f := Bth.uv b) (n := n + 1) (J := J) (fun s hs => hb s (by omega)) (fun j hj => ih j (by omega) (by omega)) (Nat.le_refl _)
      have hw : RS (((n + 1 : Nat) : Int) : Rat) 1 := by
        have e : Wd.pw 1 = 18446744073709551616 := Wd.pw_one
        refine ⟨?_, ?_⟩
        · rw [e]; show ((((n + 1 : Nat) : Int).natAbs : Nat) : Int) < _; omega
        · rw [e]; show ((1 : Nat) : Int) < _; decide
      refine (RS.div' h1 hw (show ((n + 1 : Nat) : Int) ≠ 0 by omega)).mono ?_
      have : 2 ≤ ubd J (n + 1) := Nat.le_trans (Nat.le_refl _) (ubd_mono J (Nat.zero_le (n + 1)))
      omega
theorem ubd_fit {n : Nat} (h : n ≤ 12) : ubd 20 n ≤ 100000 := Nat.le_trans (ubd_mono 20 h) (by decide)

/-- A row's numbers as a function. -/
def atR (qs : List Rat) (s : Nat) : Rat := qs[s]!

set_option maxHeartbeats 8000000 in
set_option maxRecDepth 100000 in
set_option linter.unusedSimpArgs false in
theorem uses_any (v : Value) (qs : List Rat) (w : World) (h : LawIs w v qs) (hq : ∀ j, j < qs.length → RS qs[j]! 20) (hl : qs.length ≤ 13) (hl1 : 1 ≤ qs.length) :
    Calls Tryd.prog 41 #[v] w fun e w' => ∃ v, e = .returned v ∧ LawIs w' v (row (Bth.uv (atR qs)) qs.length) ∧ Below w.heap.size w w' := by
  have KKe : KK = 1099511627776 := rfl
  obtain ⟨a, c, rfl, h1, h2, h3⟩ := h
  have H3 := hide h3
  have HQ := hide hq
  obtain ⟨N, hN⟩ : ∃ N, qs.length = N := ⟨_, rfl⟩
  rw [hN] at h1 hl hl1 ⊢
  have HN := hide hN
  have qmk := make_ratios (N : Int) (by omega) (by omega) w
  rw [Int.toNat_natCast] at qmk
  have S0 := SumsAt.start w w N (Below.refl _ _)
  rw [fill_zero (Bth.uv (atR qs)) N] at S0
  obtain ⟨W0, hW0⟩ : ∃ W, w.alloc (.cells (tcells (List.replicate N zTri)).toArray 34) = W := ⟨_, rfl⟩
  obtain ⟨G, hG⟩ : ∃ G, w.heap.size = G := ⟨_, rfl⟩
  rw [hW0, hG] at qmk S0
  have HS0 := hide S0
  have HGE := hide hG
  have e4 : (0 : Int) < (N : Int) := by omega
  clear h3 hq S0 hW0 hG hN
  go_enter Tryd.func41, Tryd.ntmps41
  go_wp2_with fail
  clear qmk
  refine (whole_any 1 (by decide) (by decide) _).mono ?_
  rintro e w1 ⟨v1, rfl, hv1, hb1⟩
  obtain ⟨t1, rfl, r1⟩ := tri_of hv1
  simp only [Tri.val]
  have S1 := (unhide HS0).keep hb1
  have CZ := S1.cells 0 (by rw [S1.len, fill_length]; omega)
  have FZ := S1.set 0 (by rw [S1.len, fill_length]; omega) t1 (Bth.uv (atR qs) 0) r1
  rw [fill_set (Bth.uv (atR qs))] at FZ
  simp only [Nat.zero_mul, Nat.zero_add] at CZ FZ
  obtain ⟨⟨y0, y1, y2⟩, l0, l1, l2⟩ := CZ
  obtain ⟨W2, hW2⟩ : ∃ W, ((w1.setCell ⟨G, 0, none⟩ (.bool t1.s)).setCell ⟨G, 1, none⟩ (.slice t1.a1 t1.n1 t1.c1)).setCell ⟨G, 2, none⟩ (.slice t1.a2 t1.n2 t1.c2) = W := ⟨_, rfl⟩
  rw [hW2] at FZ
  have HS2 := hide FZ
  clear S1 FZ r1 hv1 hb1 HS0
  go_wp2_with fail
  clear hW2 y0 y1 y2 l0 l1 l2
  go_loopw [4] (fun vn wr => ∃ (k : Nat) (us : List Tri), vn = .int .i64 (k : Int) ∧ 1 ≤ k ∧ k ≤ N ∧ SumsAt w wr G us (fill (Bth.uv (atR qs)) N k)) (fun vn _ => N - (intOf vn).toNat)
  case atStart => exact ⟨1, _, rfl, Nat.le_refl _, by omega, unhide HS2⟩
  case round =>
    obtain ⟨k, us, rfl, hk1, hk, S⟩ := hrel
    have hul : us.length = N := by rw [S.len, fill_length]
    clear HS2
    have hb20 : ∀ s, s < N → RS (atR qs s) 20 := fun s hs => unhide HQ s (by rw [unhide HN]; exact hs)
    by_cases hlt : k < N
    · have e1 : (k : Int) < (N : Int) := by omega
      have hk0 : (0 : Int) ≤ (k : Int) := by omega
      have X0 := BoxIs.new (w := wr) (t := zTri) (q := 0) (rat_zero _)
      have S1 := S.keep (alloc_below wr (.cells #[.bool false, .slice none 0 0, .slice none 0 0] 34))
      have hGs : G < wr.heap.size := (Array.getElem?_eq_some_iff.1 S.row).1
      obtain ⟨W3, hW3⟩ : ∃ W, wr.alloc (.cells #[.bool false, .slice none 0 0, .slice none 0 0] 34) = W := ⟨_, rfl⟩
      obtain ⟨bs, hbs⟩ : ∃ b, wr.heap.size = b := ⟨_, rfl⟩
      have X1 : BoxIs W3 bs zTri 0 := by rw [← hW3, ← hbs]; exact X0
      rw [hW3] at S1
      rw [hbs] at hGs
      have HS1 := hide S1
      have HX1 := hide X1
      have HNE := hide (Nat.ne_of_gt hGs)
      have HGB : Hid (w.heap.size ≤ bs) := by show _ ≤ _; have := S.bl.size; omega
      have HB20 := hide hb20
      have hf20 : ∀ j, j < k → RS (Bth.uv (atR qs) j) (ubd 20 j) := fun j hj => uv_RS (M := N - 1) (by omega) (fun s hs => hb20 s (by omega)) j (by omega)
      have HF20 := hide hf20
      have HIN : Hid (∀ s, s ≤ k → RS (Bth.inn (atR qs) (Bth.uv (atR qs)) k s) 100000) := fun s hs => (inn_lt (fun s hs => hb20 s (by omega)) hf20 hs).mono (by have := ubd_fit (n := k) (by omega); omega)
      clear S X0 S1 X1 hb20 hf20
      go_wp2_with fail
      clear hW3 hbs
      go_loopw [6] (fun vs wj => ∃ (z : Nat) (t : Tri), vs = .int .i64 (z : Int) ∧ 1 ≤ z ∧ z ≤ k + 1 ∧ BoxIs wj bs t (Bth.inn (atR qs) (Bth.uv (atR qs)) k (z - 1)) ∧ SumsAt w wj G us (fill (Bth.uv (atR qs)) N k)) (fun vs _ => k + 1 - (intOf vs).toNat)
      case atStart => exact ⟨1, _, rfl, Nat.le_refl _, by omega, unhide HX1, unhide HS1⟩
      case round =>
        obtain ⟨z, t, rfl, hz1, hz, X, S⟩ := hrel
        have HX := hide X
        have HS := hide S
        clear HX1 HS1 X S
        by_cases hzk : z ≤ k
        · obtain ⟨m, hm⟩ : ∃ m, k = m + z := ⟨k - z, by omega⟩
          obtain ⟨s, hs⟩ : ∃ s, z = s + 1 := ⟨z - 1, by omega⟩
          obtain ⟨b, o, rfl, hblt, hcs⟩ := unhide H3 (by rw [unhide HN]; omega)
          obtain ⟨xs, xp1, xp2, xn1, xd1, xn2, xd2, xk0, xk1, xk2, xr⟩ := hcs z (by rw [unhide HN]; omega)
          obtain ⟨tx, rfl, rfl, rfl, rfl, rfl, rfl, rfl⟩ : ∃ t : Tri, xs = t.s ∧ xp1 = t.a1 ∧ xp2 = t.a2 ∧ xn1 = t.n1 ∧ xd1 = t.c1 ∧ xn2 = t.n2 ∧ xd2 = t.c2 := ⟨⟨xs, xp1, xp2, xn1, xd1, xn2, xd2⟩, rfl, rfl, rfl, rfl, rfl, rfl, rfl⟩
          obtain ⟨sk0, _⟩ := (unhide HS).cells m (by omega)
          have rk := (unhide HS).rat m (by omega)
          rw [fill_get (by omega) (by omega)] at rk
          obtain ⟨ty, hty⟩ : ∃ t, us[m]! = t := ⟨_, rfl⟩
          rw [hty] at sk0 rk
          have hGlt : G < wr.heap.size := (Array.getElem?_eq_some_iff.1 (unhide HS).row).1
          have HBL := hide (unhide HS).bl
          have HCC : Hid (∀ W, Below wr.heap.size wr W → (fun w' : World => (w'.cell? ⟨bs, 0, none⟩ = some (.bool t.s) ∧ w'.cell? ⟨bs, 1, none⟩ = some (.slice t.a1 t.n1 t.c1) ∧ w'.cell? ⟨bs, 2, none⟩ = some (.slice t.a2 t.n2 t.c2)) ∧ (w'.cell? ⟨b, o + z * 3, none⟩ = some (.bool tx.s) ∧ w'.cell? ⟨b, o + z * 3 + 1, none⟩ = some (.slice tx.a1 tx.n1 tx.c1) ∧ w'.cell? ⟨b, o + z * 3 + 2, none⟩ = some (.slice tx.a2 tx.n2 tx.c2)) ∧ (w'.cell? ⟨G, m * 3, none⟩ = some (.bool ty.s) ∧ w'.cell? ⟨G, m * 3 + 1, none⟩ = some (.slice ty.a1 ty.n1 ty.c1) ∧ w'.cell? ⟨G, m * 3 + 2, none⟩ = some (.slice ty.a2 ty.n2 ty.c2))) W) := fun W hW => by
            have bc := below_step (unhide HBL) hW
            refine ⟨(unhide HX).cells W hW, ?_, ?_⟩
            · rw [bc.cell (p := ⟨b, o + z * 3, none⟩) hblt, bc.cell (p := ⟨b, o + z * 3 + 1, none⟩) hblt, bc.cell (p := ⟨b, o + z * 3 + 2, none⟩) hblt]
              exact ⟨xk0, xk1, xk2⟩
            · rw [hW.cell (p := ⟨G, m * 3, none⟩) hGlt, hW.cell (p := ⟨G, m * 3 + 1, none⟩) hGlt, hW.cell (p := ⟨G, m * 3 + 2, none⟩) hGlt]
              exact sk0
          have HRX := hide (xr.below (unhide HBL))
          have HRY := hide rk
          have hy20 := (unhide HF20 m (by omega)).mono (show ubd 20 m ≤ 100000 from ubd_fit (by omega))
          have hx20 : RS (atR qs z) 20 := unhide HB20 z (by omega)
          have HMU : Hid (∀ W, Below wr.heap.size wr W → Calls Tryd.prog 10 #[.agg #[.bool tx.s, .slice tx.a1 tx.n1 tx.c1, .slice tx.a2 tx.n2 tx.c2], .agg #[.bool ty.s, .slice ty.a1 ty.n1 ty.c1, .slice ty.a2 ty.n2 ty.c2]] W fun e w' => ∃ v, e = .returned v ∧ RatIs w' v (atR qs z * Bth.uv (atR qs) m) ∧ Below W.heap.size W w') := fun W hW => mulR_any _ _ _ _ W ((unhide HRX).below hW) ((unhide HRY).below hW) 100000 (hx20.mono (by omega)) hy20 (by rw [KKe]; omega)
          have HAD : Hid (∀ W v (hW : Below wr.heap.size wr W) (hv : RatIs W v (atR qs z * Bth.uv (atR qs) m)), Calls Tryd.prog 20 #[.agg #[.bool t.s, .slice t.a1 t.n1 t.c1, .slice t.a2 t.n2 t.c2], v] W fun e w' => ∃ v, e = .returned v ∧ RatIs w' v (Bth.inn (atR qs) (Bth.uv (atR qs)) k z) ∧ Below W.heap.size W w') := fun W v hW hv => by
            have h := addR_any t.val v _ _ W ((unhide HX).2.below hW) hv 100020 ((unhide HIN (z - 1) (by omega)).mono (by omega)) ((RS.mul hx20 hy20).mono (by omega)) (by rw [KKe]; omega)
            have e : Bth.inn (atR qs) (Bth.uv (atR qs)) k z = Bth.inn (atR qs) (Bth.uv (atR qs)) k (z - 1) + atR qs z * Bth.uv (atR qs) m := by
              rw [hs, Nat.add_sub_cancel]
              show _ + atR qs (s + 1) * Bth.uv (atR qs) (k - (s + 1)) = _
              rw [show k - (s + 1) = m by omega]
            rw [e]
            exact h
          have j1 : (z : Int) ≤ (k : Int) := by omega
          have j2 : (0 : Int) ≤ (z : Int) := by omega
          have j3 : (z : Int) < (N : Int) := by omega
          have j4 : IntKind.i64.wrap ((k : Int) - (z : Int)) = (m : Int) := by rw [IntKind.wrap_i64]; omega
          have j5 : (0 : Int) ≤ (m : Int) := by omega
          have j6 : (m : Int) < (N : Int) := by omega
          clear hm hs xr rk sk0 xk0 xk1 xk2 hcs hty hy20 hx20
          go_wp2_with fail
          refine wp_region_till (fun w' : World => (w'.cell? ⟨bs, 0, none⟩ = some (.bool t.s) ∧ w'.cell? ⟨bs, 1, none⟩ = some (.slice t.a1 t.n1 t.c1) ∧ w'.cell? ⟨bs, 2, none⟩ = some (.slice t.a2 t.n2 t.c2)) ∧ (w'.cell? ⟨b, o + z * 3, none⟩ = some (.bool tx.s) ∧ w'.cell? ⟨b, o + z * 3 + 1, none⟩ = some (.slice tx.a1 tx.n1 tx.c1) ∧ w'.cell? ⟨b, o + z * 3 + 2, none⟩ = some (.slice tx.a2 tx.n2 tx.c2)) ∧ (w'.cell? ⟨G, m * 3, none⟩ = some (.bool ty.s) ∧ w'.cell? ⟨G, m * 3 + 1, none⟩ = some (.slice ty.a1 ty.n1 ty.c1) ∧ w'.cell? ⟨G, m * 3 + 2, none⟩ = some (.slice ty.a2 ty.n2 ty.c2))) 13 (by kernel_rfl) ?_
          have bd0 : Below wr.heap.size wr wr.drew := (Below.refl _ _).drew
          have hC0 : (fun w' : World => (w'.cell? ⟨bs, 0, none⟩ = some (.bool t.s) ∧ w'.cell? ⟨bs, 1, none⟩ = some (.slice t.a1 t.n1 t.c1) ∧ w'.cell? ⟨bs, 2, none⟩ = some (.slice t.a2 t.n2 t.c2)) ∧ (w'.cell? ⟨b, o + z * 3, none⟩ = some (.bool tx.s) ∧ w'.cell? ⟨b, o + z * 3 + 1, none⟩ = some (.slice tx.a1 tx.n1 tx.c1) ∧ w'.cell? ⟨b, o + z * 3 + 2, none⟩ = some (.slice tx.a2 tx.n2 tx.c2)) ∧ (w'.cell? ⟨G, m * 3, none⟩ = some (.bool ty.s) ∧ w'.cell? ⟨G, m * 3 + 1, none⟩ = some (.slice ty.a1 ty.n1 ty.c1) ∧ w'.cell? ⟨G, m * 3 + 2, none⟩ = some (.slice ty.a2 ty.n2 ty.c2))) wr.drew := unhide HCC _ bd0
          refine wpTill_take (i := 0) (v := ?_) rfl (by kernel_rfl) (by kernel_rfl) (by kernel_rfl) (by kernel_rfl) (by kernel_rfl) (by kernel_rfl) (fun _ _ _ h => h) (Or.inl ⟨by rfl, ?_⟩) hC0 ?_
          rotate_left
          · intro w hSw; (try dsimp only at hSw); obtain ⟨⟨z0, z1, z2⟩, ⟨z3, z4, z5⟩, z6, z7, z8⟩ := hSw; go_simp; (try with_reducible rfl)
          (try simp only [List.getElem_toArray, List.getElem_cons_succ, List.getElem_cons_zero])
          (try simp only [Act.put, List.setIfInBounds_toArray, List.set_cons_zero, List.set_cons_succ])
          refine wpTill_pure (i := 1) (v := ?_) rfl (by kernel_rfl) (by kernel_rfl) (by kernel_rfl) (by kernel_rfl) (fun _ _ _ h => h) (Or.inl ⟨by rfl, ?_⟩) (fun _ => hC0) ?_
          rotate_left
          · intro w hSw; clear hSw; go_simp; (try with_reducible rfl)
          (try simp only [List.getElem_toArray, List.getElem_cons_succ, List.getElem_cons_zero])
          (try simp only [Act.put, List.setIfInBounds_toArray, List.set_cons_zero, List.set_cons_succ])
          refine wpTill_pure (i := 2) (v := ?_) rfl (by kernel_rfl) (by kernel_rfl) (by kernel_rfl) (by kernel_rfl) (fun _ _ _ h => h) (Or.inl ⟨by rfl, ?_⟩) (fun _ => hC0) ?_
          rotate_left
          · intro w hSw; clear hSw; go_simp; (try with_reducible rfl)
          (try simp only [List.getElem_toArray, List.getElem_cons_succ, List.getElem_cons_zero])
          (try simp only [Act.put, List.setIfInBounds_toArray, List.set_cons_zero, List.set_cons_succ])
          refine wpTill_pure (i := 3) (v := ?_) rfl (by kernel_rfl) (by kernel_rfl) (by kernel_rfl) (by kernel_rfl) (fun _ _ _ h => h) (Or.inl ⟨by rfl, ?_⟩) (fun _ => hC0) ?_
          rotate_left
          · intro w hSw; clear hSw; go_simp; (try with_reducible rfl)
          (try simp only [List.getElem_toArray, List.getElem_cons_succ, List.getElem_cons_zero])
          (try simp only [Act.put, List.setIfInBounds_toArray, List.set_cons_zero, List.set_cons_succ])
          refine wpTill_take (i := 4) (v := ?_) rfl (by kernel_rfl) (by kernel_rfl) (by kernel_rfl) (by kernel_rfl) (by kernel_rfl) (by kernel_rfl) (fun _ _ _ h => h) (Or.inl ⟨by rfl, ?_⟩) hC0 ?_
          rotate_left
          · intro w hSw; (try dsimp only at hSw); obtain ⟨⟨z0, z1, z2⟩, ⟨z3, z4, z5⟩, z6, z7, z8⟩ := hSw; go_simp; (try with_reducible rfl)
          (try simp only [List.getElem_toArray, List.getElem_cons_succ, List.getElem_cons_zero])
          (try simp only [Act.put, List.setIfInBounds_toArray, List.set_cons_zero, List.set_cons_succ])
          refine wpTill_pure (i := 5) (v := ?_) rfl (by kernel_rfl) (by kernel_rfl) (by kernel_rfl) (by kernel_rfl) (fun _ _ _ h => h) (Or.inl ⟨by rfl, ?_⟩) (fun _ => hC0) ?_
          rotate_left
          · intro w hSw; clear hSw; go_simp; (try with_reducible rfl)
          (try simp only [List.getElem_toArray, List.getElem_cons_succ, List.getElem_cons_zero])
          (try simp only [Act.put, List.setIfInBounds_toArray, List.set_cons_zero, List.set_cons_succ])
          refine wpTill_pure (i := 6) (v := ?_) rfl (by kernel_rfl) (by kernel_rfl) (by kernel_rfl) (by kernel_rfl) (fun _ _ _ h => h) (Or.inl ⟨by rfl, ?_⟩) (fun _ => hC0) ?_
          rotate_left
          · intro w hSw; clear hSw; go_simp; (try with_reducible rfl)
          (try simp only [List.getElem_toArray, List.getElem_cons_succ, List.getElem_cons_zero])
          (try simp only [Act.put, List.setIfInBounds_toArray, List.set_cons_zero, List.set_cons_succ])
          refine wpTill_pure (i := 7) (v := ?_) rfl (by kernel_rfl) (by kernel_rfl) (by kernel_rfl) (by kernel_rfl) (fun _ _ _ h => h) (Or.inl ⟨by rfl, ?_⟩) (fun _ => hC0) ?_
          rotate_left
          · intro w hSw; clear hSw; go_simp; (try with_reducible rfl)
          (try simp only [List.getElem_toArray, List.getElem_cons_succ, List.getElem_cons_zero])
          (try simp only [Act.put, List.setIfInBounds_toArray, List.set_cons_zero, List.set_cons_succ])
          refine wpTill_pure (i := 8) (v := ?_) rfl (by kernel_rfl) (by kernel_rfl) (by kernel_rfl) (by kernel_rfl) (fun _ _ _ h => h) (Or.inl ⟨by rfl, ?_⟩) (fun _ => hC0) ?_
          rotate_left
          · intro w hSw; clear hSw; go_simp; (try with_reducible rfl)
          (try simp only [List.getElem_toArray, List.getElem_cons_succ, List.getElem_cons_zero])
          (try simp only [Act.put, List.setIfInBounds_toArray, List.set_cons_zero, List.set_cons_succ])
          refine wpTill_pure (i := 9) (v := ?_) rfl (by kernel_rfl) (by kernel_rfl) (by kernel_rfl) (by kernel_rfl) (fun _ _ _ h => h) (Or.inl ⟨by rfl, ?_⟩) (fun _ => hC0) ?_
          rotate_left
          · intro w hSw; clear hSw; go_simp; (try with_reducible rfl)
          (try simp only [List.getElem_toArray, List.getElem_cons_succ, List.getElem_cons_zero])
          (try simp only [Act.put, List.setIfInBounds_toArray, List.set_cons_zero, List.set_cons_succ])
          refine wpTill_take (i := 10) (v := ?_) rfl (by kernel_rfl) (by kernel_rfl) (by kernel_rfl) (by kernel_rfl) (by kernel_rfl) (by kernel_rfl) (fun _ _ _ h => h) (Or.inl ⟨by rfl, ?_⟩) hC0 ?_
          rotate_left
          · intro w hSw; (try dsimp only at hSw); obtain ⟨⟨z0, z1, z2⟩, ⟨z3, z4, z5⟩, z6, z7, z8⟩ := hSw; go_simp; (try with_reducible rfl)
          (try simp only [List.getElem_toArray, List.getElem_cons_succ, List.getElem_cons_zero])
          (try simp only [Act.put, List.setIfInBounds_toArray, List.set_cons_zero, List.set_cons_succ])
          refine wpTill_one (k := 11) (by kernel_rfl) rfl (fun K hK => ?_)
          (try simp only [List.getElem_toArray, List.getElem_cons_succ, List.getElem_cons_zero])
          go_simp
          refine (unhide HMU _ bd0).mono ?_
          rintro e xw_1 ⟨xv_1, rfl, hv_1, hb_1⟩
          have cc_1 := below_step bd0 hb_1
          have hC_1 : (fun w' : World => (w'.cell? ⟨bs, 0, none⟩ = some (.bool t.s) ∧ w'.cell? ⟨bs, 1, none⟩ = some (.slice t.a1 t.n1 t.c1) ∧ w'.cell? ⟨bs, 2, none⟩ = some (.slice t.a2 t.n2 t.c2)) ∧ (w'.cell? ⟨b, o + z * 3, none⟩ = some (.bool tx.s) ∧ w'.cell? ⟨b, o + z * 3 + 1, none⟩ = some (.slice tx.a1 tx.n1 tx.c1) ∧ w'.cell? ⟨b, o + z * 3 + 2, none⟩ = some (.slice tx.a2 tx.n2 tx.c2)) ∧ (w'.cell? ⟨G, m * 3, none⟩ = some (.bool ty.s) ∧ w'.cell? ⟨G, m * 3 + 1, none⟩ = some (.slice ty.a1 ty.n1 ty.c1) ∧ w'.cell? ⟨G, m * 3 + 2, none⟩ = some (.slice ty.a2 ty.n2 ty.c2))) xw_1 := unhide HCC _ cc_1
          refine hK.out _ _ (fun _ => hC_1) ?_
          clear hK K
          (try simp only [Act.put, List.setIfInBounds_toArray, List.set_cons_zero, List.set_cons_succ])
          refine wpTill_one (k := 12) (by kernel_rfl) rfl (fun K hK => ?_)
          (try simp only [List.getElem_toArray, List.getElem_cons_succ, List.getElem_cons_zero])
          go_simp
          refine (unhide HAD _ _ cc_1 hv_1).mono ?_
          rintro e xw_2 ⟨xv_2, rfl, hv_2, hb_2⟩
          have cc_2 := below_step cc_1 hb_2
          have hC_2 : (fun w' : World => (w'.cell? ⟨bs, 0, none⟩ = some (.bool t.s) ∧ w'.cell? ⟨bs, 1, none⟩ = some (.slice t.a1 t.n1 t.c1) ∧ w'.cell? ⟨bs, 2, none⟩ = some (.slice t.a2 t.n2 t.c2)) ∧ (w'.cell? ⟨b, o + z * 3, none⟩ = some (.bool tx.s) ∧ w'.cell? ⟨b, o + z * 3 + 1, none⟩ = some (.slice tx.a1 tx.n1 tx.c1) ∧ w'.cell? ⟨b, o + z * 3 + 2, none⟩ = some (.slice tx.a2 tx.n2 tx.c2)) ∧ (w'.cell? ⟨G, m * 3, none⟩ = some (.bool ty.s) ∧ w'.cell? ⟨G, m * 3 + 1, none⟩ = some (.slice ty.a1 ty.n1 ty.c1) ∧ w'.cell? ⟨G, m * 3 + 2, none⟩ = some (.slice ty.a2 ty.n2 ty.c2))) xw_2 := unhide HCC _ cc_2
          refine hK.out _ _ (fun _ => hC_2) ?_
          clear hK K
          (try simp only [Act.put, List.setIfInBounds_toArray, List.set_cons_zero, List.set_cons_succ])
          obtain ⟨tn, rfl, rn⟩ := tri_of hv_2
          simp only [Tri.val]
          have S2 := (unhide HS).keep cc_2
          have X2 := (unhide HX).keep cc_2
          have ⟨l0, l1, l2⟩ := X2.free
          have ⟨y0, y1, y2⟩ := X2.cells _ (Below.refl _ _)
          have NX := X2.set rn
          have NS : SumsAt w _ G us (fill (Bth.uv (atR qs)) N k) := ⟨by rw [Below.heap_setCell _ _ _ _ (fun e => unhide HNE e.symm), Below.heap_setCell _ _ _ _ (fun e => unhide HNE e.symm), Below.heap_setCell _ _ _ _ (fun e => unhide HNE e.symm)]; exact S2.row, S2.len, fun j hj => (S2.rat j hj).boxSet X2 (.bool tn.s) (.slice tn.a1 tn.n1 tn.c1) (.slice tn.a2 tn.n2 tn.c2), ((S2.bl.setCell (p := ⟨bs, 0, none⟩) (unhide HGB) (.bool tn.s)).setCell (p := ⟨bs, 1, none⟩) (unhide HGB) (.slice tn.a1 tn.n1 tn.c1)).setCell (p := ⟨bs, 2, none⟩) (unhide HGB) (.slice tn.a2 tn.n2 tn.c2), S2.gl⟩
          obtain ⟨W5, hW5⟩ : ∃ W, ((xw_2.setCell ⟨bs, 0, none⟩ (.bool tn.s)).setCell ⟨bs, 1, none⟩ (.slice tn.a1 tn.n1 tn.c1)).setCell ⟨bs, 2, none⟩ (.slice tn.a2 tn.n2 tn.c2) = W := ⟨_, rfl⟩
          rw [hW5] at NX NS
          have HNX := hide NX
          have HNS := hide NS
          clear S2 X2 NX NS rn hv_1 hv_2 hb_1 hb_2
          refine wpTill_one (k := 13) (by kernel_rfl) rfl (fun K hK => ?_)
          (try simp only [List.getElem_toArray, List.getElem_cons_succ, List.getElem_cons_zero])
          go_simp
          refine hK.out _ _ (fun h => absurd (h.symm.trans (by kernel_rfl)) Bool.false_ne_true) ?_
          clear hK K
          (try simp only [Act.put, List.setIfInBounds_toArray, List.set_cons_zero, List.set_cons_succ])
          refine wpTill_done (by kernel_rfl) ?_ _
          clear l0 l1 l2 y0 y1 y2 hW5 hC0 hC_1 hC_2 cc_1 cc_2 bd0 HCC HMU HAD
          go_wp2_with fail
          exact ⟨⟨z + 1, tn, by go_num, by omega, by omega, unhide HNX, unhide HNS⟩, by simp [intOf]; omega⟩
        · obtain ⟨k', hk'⟩ : ∃ k', k = k' + 1 := ⟨k - 1, by omega⟩
          have ez : z - 1 = k := by omega
          have X := unhide HX
          rw [ez] at X
          have HXk := hide X
          have HCC : Hid (∀ W, Below wr.heap.size wr W → (fun w' : World => (w'.cell? ⟨bs, 0, none⟩ = some (.bool t.s) ∧ w'.cell? ⟨bs, 1, none⟩ = some (.slice t.a1 t.n1 t.c1) ∧ w'.cell? ⟨bs, 2, none⟩ = some (.slice t.a2 t.n2 t.c2))) W) := fun W hW => (unhide HXk).cells W hW
          have HWH : Hid (∀ W, Calls Tryd.prog 12 #[.int .i64 (k : Int)] W fun e w' => ∃ v, e = .returned v ∧ RatIs w' v (((k : Nat) : Int) : Rat) ∧ Below W.heap.size W w') := fun W => whole_any (k : Int) (by omega) (by omega) W
          have HDV : Hid (∀ W v (hW : Below wr.heap.size wr W) (hv : RatIs W v (((k : Nat) : Int) : Rat)), Calls Tryd.prog 23 #[.agg #[.bool t.s, .slice t.a1 t.n1 t.c1, .slice t.a2 t.n2 t.c2], v] W fun e w' => ∃ v, e = .returned v ∧ RatIs w' v (Bth.uv (atR qs) k) ∧ Below W.heap.size W w') := fun W v hW hv => by
            have hw : RS (((k : Nat) : Int) : Rat) 1 := by
              have e : Wd.pw 1 = 18446744073709551616 := Wd.pw_one
              refine (⟨?_, ?_⟩ : RS _ _)
              · rw [e]; show ((((k : Nat) : Int).natAbs : Nat) : Int) < _; omega
              · rw [e]; show ((1 : Nat) : Int) < _; decide
            have h := bdivided_any t.val v _ _ W ((unhide HXk).2.below hW) hv 100000 (unhide HIN k (Nat.le_refl _)) (hw.mono (by omega)) (by rw [KKe]; omega) (show ((k : Nat) : Int) ≠ 0 by omega)
            have e : Bth.uv (atR qs) k = Bth.inn (atR qs) (Bth.uv (atR qs)) k k / (((k : Nat) : Int) : Rat) := by rw [hk']; exact Bth.uv_succ _ _
            rw [e]
            exact h
          have j1 : ¬ (z : Int) ≤ (k : Int) := by omega
          clear hk' ez X
          go_wp2_with fail
          refine wp_region_till (fun w' : World => (w'.cell? ⟨bs, 0, none⟩ = some (.bool t.s) ∧ w'.cell? ⟨bs, 1, none⟩ = some (.slice t.a1 t.n1 t.c1) ∧ w'.cell? ⟨bs, 2, none⟩ = some (.slice t.a2 t.n2 t.c2))) 7 (by kernel_rfl) ?_
          have bd0 : Below wr.heap.size wr wr.drew := (Below.refl _ _).drew
          have hC0 : (fun w' : World => (w'.cell? ⟨bs, 0, none⟩ = some (.bool t.s) ∧ w'.cell? ⟨bs, 1, none⟩ = some (.slice t.a1 t.n1 t.c1) ∧ w'.cell? ⟨bs, 2, none⟩ = some (.slice t.a2 t.n2 t.c2))) wr.drew := unhide HCC _ bd0
          refine wpTill_pure (i := 0) (v := ?_) rfl (by kernel_rfl) (by kernel_rfl) (by kernel_rfl) (by kernel_rfl) (fun _ _ _ h => h) (Or.inl ⟨by rfl, ?_⟩) (fun _ => hC0) ?_
          rotate_left
          · intro w hSw; clear hSw; go_simp; (try with_reducible rfl)
          (try simp only [List.getElem_toArray, List.getElem_cons_succ, List.getElem_cons_zero])
          (try simp only [Act.put, List.setIfInBounds_toArray, List.set_cons_zero, List.set_cons_succ])
          refine wpTill_pure (i := 1) (v := ?_) rfl (by kernel_rfl) (by kernel_rfl) (by kernel_rfl) (by kernel_rfl) (fun _ _ _ h => h) (Or.inl ⟨by rfl, ?_⟩) (fun _ => hC0) ?_
          rotate_left
          · intro w hSw; clear hSw; go_simp; (try with_reducible rfl)
          (try simp only [List.getElem_toArray, List.getElem_cons_succ, List.getElem_cons_zero])
          (try simp only [Act.put, List.setIfInBounds_toArray, List.set_cons_zero, List.set_cons_succ])
          refine wpTill_take (i := 2) (v := ?_) rfl (by kernel_rfl) (by kernel_rfl) (by kernel_rfl) (by kernel_rfl) (by kernel_rfl) (by kernel_rfl) (fun _ _ _ h => h) (Or.inl ⟨by rfl, ?_⟩) hC0 ?_
          rotate_left
          · intro w hSw; (try dsimp only at hSw); obtain ⟨z0, z1, z2⟩ := hSw; go_simp; (try with_reducible rfl)
          (try simp only [List.getElem_toArray, List.getElem_cons_succ, List.getElem_cons_zero])
          (try simp only [Act.put, List.setIfInBounds_toArray, List.set_cons_zero, List.set_cons_succ])
          refine wpTill_pure (i := 3) (v := ?_) rfl (by kernel_rfl) (by kernel_rfl) (by kernel_rfl) (by kernel_rfl) (fun _ _ _ h => h) (Or.inl ⟨by rfl, ?_⟩) (fun _ => hC0) ?_
          rotate_left
          · intro w hSw; clear hSw; go_simp; (try with_reducible rfl)
          (try simp only [List.getElem_toArray, List.getElem_cons_succ, List.getElem_cons_zero])
          (try simp only [Act.put, List.setIfInBounds_toArray, List.set_cons_zero, List.set_cons_succ])
          refine wpTill_one (k := 4) (by kernel_rfl) rfl (fun K hK => ?_)
          (try simp only [List.getElem_toArray, List.getElem_cons_succ, List.getElem_cons_zero])
          go_simp
          refine (unhide HWH _).mono ?_
          rintro e xw_1 ⟨xv_1, rfl, hv_1, hb_1⟩
          have cc_1 := below_step bd0 hb_1
          have hC_1 : (fun w' : World => (w'.cell? ⟨bs, 0, none⟩ = some (.bool t.s) ∧ w'.cell? ⟨bs, 1, none⟩ = some (.slice t.a1 t.n1 t.c1) ∧ w'.cell? ⟨bs, 2, none⟩ = some (.slice t.a2 t.n2 t.c2))) xw_1 := unhide HCC _ cc_1
          refine hK.out _ _ (fun _ => hC_1) ?_
          clear hK K
          (try simp only [Act.put, List.setIfInBounds_toArray, List.set_cons_zero, List.set_cons_succ])
          refine wpTill_one (k := 5) (by kernel_rfl) rfl (fun K hK => ?_)
          (try simp only [List.getElem_toArray, List.getElem_cons_succ, List.getElem_cons_zero])
          go_simp
          refine (unhide HDV _ _ cc_1 hv_1).mono ?_
          rintro e xw_2 ⟨xv_2, rfl, hv_2, hb_2⟩
          have cc_2 := below_step cc_1 hb_2
          have hC_2 : (fun w' : World => (w'.cell? ⟨bs, 0, none⟩ = some (.bool t.s) ∧ w'.cell? ⟨bs, 1, none⟩ = some (.slice t.a1 t.n1 t.c1) ∧ w'.cell? ⟨bs, 2, none⟩ = some (.slice t.a2 t.n2 t.c2))) xw_2 := unhide HCC _ cc_2
          refine hK.out _ _ (fun _ => hC_2) ?_
          clear hK K
          (try simp only [Act.put, List.setIfInBounds_toArray, List.set_cons_zero, List.set_cons_succ])
          refine wpTill_pure (i := 6) (v := ?_) rfl (by kernel_rfl) (by kernel_rfl) (by kernel_rfl) (by kernel_rfl) (fun _ _ _ h => h) (Or.inl ⟨by rfl, ?_⟩) (fun _ => hC_2) ?_
          rotate_left
          · intro w hSw; clear hSw; go_simp; (try with_reducible rfl)
          (try simp only [List.getElem_toArray, List.getElem_cons_succ, List.getElem_cons_zero])
          (try simp only [Act.put, List.setIfInBounds_toArray, List.set_cons_zero, List.set_cons_succ])
          obtain ⟨tn, rfl, rn⟩ := tri_of hv_2
          simp only [Tri.val]
          have S2 := (unhide HS).keep cc_2
          have ⟨⟨y0, y1, y2⟩, l0, l1, l2⟩ := S2.cells k (by omega)
          have FZ := S2.set k (by omega) tn _ rn
          rw [fill_set (Bth.uv (atR qs))] at FZ
          obtain ⟨W5, hW5⟩ : ∃ W, ((xw_2.setCell ⟨G, k * 3, none⟩ (.bool tn.s)).setCell ⟨G, k * 3 + 1, none⟩ (.slice tn.a1 tn.n1 tn.c1)).setCell ⟨G, k * 3 + 2, none⟩ (.slice tn.a2 tn.n2 tn.c2) = W := ⟨_, rfl⟩
          rw [hW5] at FZ
          have HFS := hide FZ
          clear S2 FZ rn hv_1 hv_2 hb_1 hb_2
          refine wpTill_one (k := 7) (by kernel_rfl) rfl (fun K hK => ?_)
          (try simp only [List.getElem_toArray, List.getElem_cons_succ, List.getElem_cons_zero])
          go_simp
          refine hK.out _ _ (fun h => absurd (h.symm.trans (by kernel_rfl)) Bool.false_ne_true) ?_
          clear hK K
          (try simp only [Act.put, List.setIfInBounds_toArray, List.set_cons_zero, List.set_cons_succ])
          refine wpTill_done (by kernel_rfl) ?_ _
          clear l0 l1 l2 y0 y1 y2 hW5 hC0 hC_1 hC_2 cc_1 cc_2 bd0 HCC HWH HDV
          go_wp2_with fail
          exact ⟨⟨k + 1, us.set k tn, by go_num, by omega, by omega, unhide HFS⟩, by simp [intOf]; omega⟩
    · obtain rfl : k = N := by omega
      have e1 : ¬ (k : Int) < (k : Int) := by omega
      have LW := S.law (by omega)
      rw [hul] at LW
      have HLW := hide LW
      have HBB := hide S.bl
      clear S LW
      go_wp2
      go_ret
      exact ⟨_, rfl, unhide HLW, unhide HBB⟩
end Go.Proofs.YtigilnkcjblhcaaDoor
