/- Nets: what may be. -/
import Derived.Test.YtdaejkngmckmdaaGreatDoorN5
import Derived.Test.YtdaejkngmckmdaaGreatDoorM23
import Derived.Test.YtdaejkngmckmdaaGreatDoorM8
import Derived.Test.YtdaejkngmckmdaaGreatDoorQ0
namespace Go.Proofs.YtdaejkngmckmdaaGreatDoor
open Go.RowKit Go.Sort Go.Shelf

/-- The sign of a comparison. -/
def cmpv (a b : Rat) : Int := Wd.sg (a.num * b.den) (b.num * a.den)
theorem cmpv_lt {a b : Rat} (h : a < b) : cmpv a b = -1 := by
  have h' := Rat.lt_iff a b |>.1 h
  unfold cmpv Wd.sg
  rw [if_pos h']
theorem cmpv_ge {a b : Rat} (h : b ≤ a) : 0 ≤ cmpv a b ∧ cmpv a b ≤ 1 := by
  have h' := Rat.le_iff b a |>.1 h
  unfold cmpv
  exact sg_ge h'
theorem cmpv_le {a b : Rat} (h : a ≤ b) : -1 ≤ cmpv a b ∧ cmpv a b ≤ 0 := by
  have h' := Rat.le_iff a b |>.1 h
  unfold cmpv Wd.sg
  by_cases e : a.num * b.den < b.num * a.den
  · rw [if_pos e]; exact ⟨by decide, by decide⟩
  · rw [if_neg e, if_pos (by omega)]; exact ⟨by decide, by decide⟩
theorem cmpR_all (va vb : Value) (qa qb : Rat) (w : World) (ha : RatIs w va qa) (hb : RatIs w vb qb) (j : Nat) (ra : RS qa j) (rb : RS qb j) (hj : j ≤ KK) :
    Calls Tryz.prog 26 #[va, vb] w fun e w' => e = .returned (.int .i64 (cmpv qa qb)) ∧ Below w.heap.size w w' :=
  cmpR_any va vb qa qb w ha hb (sm_of ra.1 hj) (sm_of rb.1 hj) (sm_of ra.2 hj) (sm_of rb.2 hj)

theorem cmpv_gt {a b : Rat} (h : b < a) : cmpv a b = 1 := by
  have h' := Rat.lt_iff b a |>.1 h
  unfold cmpv Wd.sg
  rw [if_neg (by omega), if_neg (by omega)]
theorem sign_neg {q : Rat} (h : q < 0) : q.num.sign = -1 := Int.sign_eq_neg_one_of_neg (by
  have := Rat.lt_iff q 0 |>.1 h
  simpa using this)
theorem sign_nn {q : Rat} (h : ¬ q < 0) : 0 ≤ q.num.sign := Int.sign_nonneg_iff.2 (by
  have : ¬ _ := fun x => h (Rat.lt_iff q 0 |>.2 x)
  simpa using this)
theorem sign_ps {q : Rat} (h : 0 < q) : q.num.sign = 1 := Int.sign_eq_one_of_pos (by
  have := Rat.lt_iff 0 q |>.1 h
  simpa using this)
theorem sign_np {q : Rat} (h : ¬ 0 < q) : q.num.sign ≤ 0 := by
  have : ¬ (0 : Int) < q.num := fun x => h (Rat.lt_iff 0 q |>.2 (by simpa using x))
  rcases Int.lt_or_eq_of_le (Int.not_lt.1 this) with a | a
  · rw [Int.sign_eq_neg_one_of_neg a]; decide
  · rw [a]; decide

/-- A question's answer. -/
def AskPost (w : World) (P : Prop) (e : Ending) (w' : World) : Prop := ((P ∧ e = .returned (.bool true)) ∨ (¬ P ∧ e = .returned (.bool false))) ∧ Below w.heap.size w w'
/-- A check: nothing, or an error. -/
def CheckPost (w : World) (P : Prop) (e : Ending) (w' : World) : Prop := ((P ∧ e = .returned .nilIface) ∨ (¬ P ∧ ∃ k : Int, e = .returned (.iface 62 (.int .i64 k)))) ∧ Below w.heap.size w w'
def Fit5 (n : Int) : Prop := 1 ≤ n ∧ n ≤ 5
def NonNeg (qs : List Rat) : Prop := ∀ j, j < qs.length → 0 ≤ qs[j]!
def AllPos (qs : List Rat) : Prop := ∀ j, j < qs.length → 0 < qs[j]!
/-- Speeds that may be. -/
def GoodS (qs : List Rat) (n : Nat) : Prop := qs.length = n ∧ AllPos qs

set_option maxHeartbeats 8000000 in
set_option maxRecDepth 100000 in
set_option linter.unusedSimpArgs false in
theorem placesFit_any (n : Int) (w : World) (h0 : -9223372036854775808 ≤ n) (h1 : n ≤ 9223372036854775807) : Calls Tryz.prog 29 #[.int .i64 n] w (AskPost w (Fit5 n)) := by
  by_cases a : 1 ≤ n
  · by_cases b : n ≤ 5
    · go_enter Tryz.func29, Tryz.ntmps29
      go_wp2
      go_ret
      exact ⟨Or.inl ⟨⟨a, b⟩, rfl⟩, Below.refl _ _⟩
    · go_enter Tryz.func29, Tryz.ntmps29
      go_wp2
      go_ret
      exact ⟨Or.inr ⟨fun x => absurd x.2 (by omega), rfl⟩, Below.refl _ _⟩
  · go_enter Tryz.func29, Tryz.ntmps29
    go_wp2
    go_ret
    exact ⟨Or.inr ⟨fun x => absurd x.1 (by omega), rfl⟩, Below.refl _ _⟩

set_option maxHeartbeats 8000000 in
set_option maxRecDepth 100000 in
set_option linter.unusedSimpArgs false in
theorem anyBelow_any (v : Value) (qs : List Rat) (w : World) (h : LawIs w v qs) : Calls Tryz.prog 46 #[v] w (AskPost w (¬ NonNeg qs)) := by
  obtain ⟨a, c, rfl, h1, h2, h3⟩ := h
  have H3 := hide h3
  clear h3
  go_enter Tryz.func46, Tryz.ntmps46
  go_wp2_with fail
  go_loopw [7] (fun vi wr => ∃ i : Nat, vi = .int .i64 (i : Int) ∧ i ≤ qs.length ∧ Below w.heap.size w wr ∧ ∀ j, j < i → 0 ≤ qs[j]!) (fun vi _ => qs.length - (intOf vi).toNat)
  case atStart => exact ⟨0, rfl, Nat.zero_le _, Below.refl _ _, fun j hj => absurd hj (Nat.not_lt_zero _)⟩
  case round =>
    obtain ⟨i, rfl, hi, hb, hz⟩ := hrel
    have HB := hide hb
    have HZ := hide hz
    by_cases hlt : i < qs.length
    · have e1 : (i : Int) < (qs.length : Int) := by omega
      have e0 : (0 : Int) ≤ (i : Int) := by omega
      obtain ⟨b, o, rfl, hblt, hcs⟩ := unhide H3 (by omega)
      obtain ⟨xs, xp1, xp2, xn1, xd1, xn2, xd2, xk0, xk1, xk2, xr⟩ := hcs i hlt
      obtain ⟨tx, rfl, rfl, rfl, rfl, rfl, rfl, rfl⟩ : ∃ t : Tri, xs = t.s ∧ xp1 = t.a1 ∧ xp2 = t.a2 ∧ xn1 = t.n1 ∧ xd1 = t.c1 ∧ xn2 = t.n2 ∧ xd2 = t.c2 := ⟨⟨xs, xp1, xp2, xn1, xd1, xn2, xd2⟩, rfl, rfl, rfl, rfl, rfl, rfl, rfl⟩
      rw [← (hb).cell (p := ⟨b, o + i * 3, none⟩) hblt] at xk0
      rw [← (hb).cell (p := ⟨b, o + i * 3 + 1, none⟩) hblt] at xk1
      rw [← (hb).cell (p := ⟨b, o + i * 3 + 2, none⟩) hblt] at xk2
      have Y0 := BoxIs.new (t := tx) (xr.below (hb))
      have HBA := hide (alloc_below wr (.cells #[.bool tx.s, .slice tx.a1 tx.n1 tx.c1, .slice tx.a2 tx.n2 tx.c2] 39))
      obtain ⟨W2, hW2⟩ : ∃ W, wr.alloc (.cells #[.bool tx.s, .slice tx.a1 tx.n1 tx.c1, .slice tx.a2 tx.n2 tx.c2] 39) = W := ⟨_, rfl⟩
      obtain ⟨bx, hbx⟩ : ∃ g, wr.heap.size = g := ⟨_, rfl⟩
      rw [hW2] at Y0 HBA
      rw [hbx] at Y0
      have HY := hide Y0
      have ⟨c0, c1, c2⟩ := Y0.cells _ (Below.refl _ _)
      obtain ⟨q, hq⟩ : ∃ q, qs[i]! = q := ⟨_, rfl⟩
      rw [hq] at Y0
      have HQ := hide hq
      have HSG := hide (sign_any tx.val q W2 Y0.2)
      have HB2 := hide (below_step hb (unhide HBA))
      clear hb hz Y0 HY hcs xr hq
      go_wp2_with fail
      refine (unhide HSG).mono ?_
      rintro e w2 ⟨rfl, hb2⟩
      have HB3 := hide (below_step (unhide HB2) hb2)
      clear hW2 hbx c0 c1 c2 xk0 xk1 xk2 hb2 HSG
      by_cases hn : q < 0
      · rw [sign_neg hn]
        have HN := hide hn
        clear hn
        go_wp2
        go_ret
        refine ⟨Or.inl ⟨fun x => ?_, rfl⟩, unhide HB3⟩
        have a := x i hlt
        have b := unhide HN
        rw [unhide HQ] at a
        grind
      · have s0 := sign_nn hn
        have s1 := (sign_bd q.num).2
        obtain ⟨x, hx⟩ : ∃ x, q.num.sign = x := ⟨_, rfl⟩
        rw [hx] at s0 s1 ⊢
        have HN := hide hn
        clear hn hx
        go_wp2_with fail
        refine ⟨⟨i + 1, by go_num, hlt, unhide HB3, fun j hj => ?_⟩, by simp [intOf]; omega⟩
        by_cases e : j = i
        · rw [e, unhide HQ]
          have := unhide HN
          grind
        · exact unhide HZ j (by omega)
    · obtain rfl : i = qs.length := by omega
      have e1 : ¬ (qs.length : Int) < (qs.length : Int) := by omega
      clear hb hz
      go_wp2
      go_ret
      exact ⟨Or.inr ⟨fun x => x (fun j hj => unhide HZ j hj), rfl⟩, unhide HB⟩

set_option maxHeartbeats 8000000 in
set_option maxRecDepth 100000 in
set_option linter.unusedSimpArgs false in
theorem checkSpeeds_any (v : Value) (qs : List Rat) (n : Nat) (w : World) (h : LawIs w v qs) (hn : n ≤ 1000) : Calls Tryz.prog 24 #[v, .int .i64 (n : Int)] w (CheckPost w (GoodS qs n)) := by
  obtain ⟨a, c, rfl, h1, h2, h3⟩ := h
  have H3 := hide h3
  clear h3
  by_cases hne : qs.length = n
  rotate_left
  · have e1 : ((qs.length : Int) == (n : Int)) = false := by rw [beq_eq_false_iff_ne]; omega
    have HN := hide hne
    clear hne
    go_enter Tryz.func24, Tryz.ntmps24
    go_wp2
    go_ret
    exact ⟨Or.inr ⟨fun x => unhide HN x.1, 3, rfl⟩, Below.refl _ _⟩
  subst hne
  go_enter Tryz.func24, Tryz.ntmps24
  go_wp2_with fail
  go_loopw [14] (fun vi wr => ∃ i : Nat, vi = .int .i64 (i : Int) ∧ i ≤ qs.length ∧ Below w.heap.size w wr ∧ ∀ j, j < i → 0 < qs[j]!) (fun vi _ => qs.length - (intOf vi).toNat)
  case atStart => exact ⟨0, rfl, Nat.zero_le _, Below.refl _ _, fun j hj => absurd hj (Nat.not_lt_zero _)⟩
  case round =>
    obtain ⟨i, rfl, hi, hb, hz⟩ := hrel
    have HB := hide hb
    have HZ := hide hz
    by_cases hlt : i < qs.length
    · have e1 : (i : Int) < (qs.length : Int) := by omega
      have e0 : (0 : Int) ≤ (i : Int) := by omega
      obtain ⟨b, o, rfl, hblt, hcs⟩ := unhide H3 (by omega)
      obtain ⟨xs, xp1, xp2, xn1, xd1, xn2, xd2, xk0, xk1, xk2, xr⟩ := hcs i hlt
      obtain ⟨tx, rfl, rfl, rfl, rfl, rfl, rfl, rfl⟩ : ∃ t : Tri, xs = t.s ∧ xp1 = t.a1 ∧ xp2 = t.a2 ∧ xn1 = t.n1 ∧ xd1 = t.c1 ∧ xn2 = t.n2 ∧ xd2 = t.c2 := ⟨⟨xs, xp1, xp2, xn1, xd1, xn2, xd2⟩, rfl, rfl, rfl, rfl, rfl, rfl, rfl⟩
      rw [← (hb).cell (p := ⟨b, o + i * 3, none⟩) hblt] at xk0
      rw [← (hb).cell (p := ⟨b, o + i * 3 + 1, none⟩) hblt] at xk1
      rw [← (hb).cell (p := ⟨b, o + i * 3 + 2, none⟩) hblt] at xk2
      have Y0 := BoxIs.new (t := tx) (xr.below (hb))
      have HBA := hide (alloc_below wr (.cells #[.bool tx.s, .slice tx.a1 tx.n1 tx.c1, .slice tx.a2 tx.n2 tx.c2] 39))
      obtain ⟨W2, hW2⟩ : ∃ W, wr.alloc (.cells #[.bool tx.s, .slice tx.a1 tx.n1 tx.c1, .slice tx.a2 tx.n2 tx.c2] 39) = W := ⟨_, rfl⟩
      obtain ⟨bx, hbx⟩ : ∃ g, wr.heap.size = g := ⟨_, rfl⟩
      rw [hW2] at Y0 HBA
      rw [hbx] at Y0
      have HY := hide Y0
      have ⟨c0, c1, c2⟩ := Y0.cells _ (Below.refl _ _)
      obtain ⟨q, hq⟩ : ∃ q, qs[i]! = q := ⟨_, rfl⟩
      rw [hq] at Y0
      have HQ := hide hq
      have HSG := hide (sign_any tx.val q W2 Y0.2)
      have HB2 := hide (below_step hb (unhide HBA))
      clear hb hz Y0 HY hcs xr hq
      go_wp2_with fail
      refine (unhide HSG).mono ?_
      rintro e w2 ⟨rfl, hb2⟩
      have HB3 := hide (below_step (unhide HB2) hb2)
      clear hW2 hbx c0 c1 c2 xk0 xk1 xk2 hb2 HSG
      by_cases hn : 0 < q
      · rw [sign_ps hn]
        have HNN := hide hn
        clear hn
        go_wp2_with fail
        refine ⟨⟨i + 1, by go_num, hlt, unhide HB3, fun j hj => ?_⟩, by simp [intOf]; omega⟩
        by_cases e : j = i
        · rw [e, unhide HQ]; exact unhide HNN
        · exact unhide HZ j (by omega)
      · have s0 := sign_np hn
        have s1 := (sign_bd q.num).1
        obtain ⟨x, hx⟩ : ∃ x, q.num.sign = x := ⟨_, rfl⟩
        rw [hx] at s0 s1 ⊢
        have HNN := hide hn
        clear hn hx
        go_wp2
        go_ret
        refine ⟨Or.inr ⟨fun x => ?_, 1, rfl⟩, unhide HB3⟩
        have a := x.2 i hlt
        rw [unhide HQ] at a
        exact unhide HNN a
    · obtain rfl : i = qs.length := by omega
      have e1 : ¬ (qs.length : Int) < (qs.length : Int) := by omega
      clear hb hz
      go_wp2
      go_ret
      exact ⟨Or.inl ⟨⟨rfl, fun j hj => unhide HZ j hj⟩, rfl⟩, unhide HB⟩

set_option maxHeartbeats 8000000 in
set_option maxRecDepth 100000 in
set_option linter.unusedSimpArgs false in
theorem checkCrowd_any (v : Value) (qs : List Rat) (n : Nat) (w : World) (h : LawIs w v qs) (hn : n ≤ 20) (hl : qs.length ≤ 5) (hl0 : 0 < qs.length) : Calls Tryz.prog 43 #[v, .int .i64 (n : Int)] w (CheckPost w (NonNeg qs)) := by
  have HV := hide h
  obtain ⟨a, c, rfl, h1, h2, h3⟩ := h
  clear h3
  have e1 : ¬ (n : Int) < 0 := by omega
  have e2 : ¬ (20 : Int) < (n : Int) := by omega
  have HL0 := hide hl0
  clear hl0
  go_enter Tryz.func43, Tryz.ntmps43
  go_wp2_with fail
  refine (placesFit_any (qs.length : Int) w (by omega) (by omega)).mono ?_
  rintro e w1 ⟨(⟨_, rfl⟩ | ⟨hx, rfl⟩), hb1⟩
  rotate_left
  · exact absurd ⟨by have := unhide HL0; omega, by omega⟩ hx
  have HB1 := hide hb1
  clear hb1
  go_wp2_with fail
  refine (anyBelow_any _ qs w1 ((unhide HV).below (unhide HB1))).mono ?_
  rintro e w2 ⟨(⟨hx, rfl⟩ | ⟨hx, rfl⟩), hb2⟩
  · have HX := hide hx
    have HB2 := hide (below_step (unhide HB1) hb2)
    clear hx hb2
    go_wp2
    go_ret
    exact ⟨Or.inr ⟨unhide HX, 1, rfl⟩, unhide HB2⟩
  · have HX := hide hx
    have HB2 := hide (below_step (unhide HB1) hb2)
    clear hx hb2
    go_wp2
    go_ret
    exact ⟨Or.inl ⟨Classical.not_not.1 (unhide HX), rfl⟩, unhide HB2⟩

/-- Routes that may be: each row is from q0 to 1 together. -/
def GoodR (ks : List (List Rat)) (q0 : Rat) : Prop := 0 < ks.length ∧ ks.length ≤ 5 ∧ ∀ i, i < ks.length → (ks[i]!).length = ks.length ∧ NonNeg ks[i]! ∧ q0 ≤ qsum ks[i]! ks.length ∧ qsum ks[i]! ks.length ≤ 1

set_option maxHeartbeats 8000000 in
set_option maxRecDepth 100000 in
set_option linter.unusedSimpArgs false in
theorem checkRoutes_any (v vl : Value) (ks : List (List Rat)) (q0 : Rat) (w : World) (h : RowsAre w v ks) (hq0 : RatIs w vl q0) (hr0 : RS q0 1) (hl : ks.length ≤ 1000) (hR : ∀ i j, i < ks.length → j < (ks[i]!).length → RS (ks[i]!)[j]! 1) (hll : ∀ i, i < ks.length → (ks[i]!).length ≤ 1000) : Calls Tryz.prog 41 #[v, vl] w (CheckPost w (GoodR ks q0)) := by
  have KKe : KK = 1099511627776 := rfl
  obtain ⟨a, c, rfl, h1, h2, h3⟩ := h
  obtain ⟨t, rfl, ht⟩ := tri_of hq0
  have H3 := hide h3
  have HR := hide hR
  have HLL := hide hll
  have HR0 := hide hr0
  have X0 := BoxIs.new ht
  have bA := alloc_below w (.cells #[.bool t.s, .slice t.a1 t.n1 t.c1, .slice t.a2 t.n2 t.c2] 39)
  obtain ⟨W0, hW0⟩ : ∃ W, w.alloc (.cells #[.bool t.s, .slice t.a1 t.n1 t.c1, .slice t.a2 t.n2 t.c2] 39) = W := ⟨_, rfl⟩
  obtain ⟨bl, hbl⟩ : ∃ g, w.heap.size = g := ⟨_, rfl⟩
  rw [hW0] at X0 bA
  rw [hbl] at X0
  have HX := hide X0
  have HB0 := hide bA
  simp only [Tri.val]
  clear h3 hR hll hr0 hq0 ht X0 bA
  go_enter Tryz.func41, Tryz.ntmps41
  go_wp2_with fail
  refine (placesFit_any (ks.length : Int) W0 (by omega) (by omega)).mono ?_
  rintro e w1 ⟨(⟨hx, rfl⟩ | ⟨hx, rfl⟩), hb1⟩
  rotate_left
  · have HN := hide hx
    have HB1 := hide (below_step (unhide HB0) hb1)
    clear hx hb1 hW0 hbl
    go_wp2
    go_ret
    exact ⟨Or.inr ⟨fun x => unhide HN ⟨by have := x.1; omega, by have := x.2.1; omega⟩, 4, rfl⟩, unhide HB1⟩
  have HFIT := hide hx
  have HX1 := hide ((unhide HX).keep hb1)
  have HB1 := hide (below_step (unhide HB0) hb1)
  clear hx hb1 hW0 hbl HX HB0
  go_wp2_with fail
  go_loopw [15] (fun vi wr => ∃ i : Nat, vi = .int .i64 (i : Int) ∧ i ≤ ks.length ∧ Below w.heap.size w wr ∧ BoxIs wr bl t q0 ∧ ∀ j, j < i → (ks[j]!).length = ks.length ∧ NonNeg ks[j]! ∧ q0 ≤ qsum ks[j]! ks.length ∧ qsum ks[j]! ks.length ≤ 1) (fun vi _ => ks.length - (intOf vi).toNat)
  case atStart => exact ⟨0, rfl, Nat.zero_le _, unhide HB1, unhide HX1, fun j hj => absurd hj (Nat.not_lt_zero _)⟩
  case round =>
    obtain ⟨i, rfl, hi, hb, hX, hz⟩ := hrel
    clear HB1 HX1
    have HB := hide hb
    have HX := hide hX
    have HZ := hide hz
    by_cases hlt : i < ks.length
    · have e1 : (i : Int) < (ks.length : Int) := by omega
      have e0 : (0 : Int) ≤ (i : Int) := by omega
      obtain ⟨b, o, rfl, hblt, hcs⟩ := unhide H3 (by omega)
      obtain ⟨l, k0, hl⟩ := hcs i hlt
      rw [← hb.cell (p := ⟨b, o + i, none⟩) hblt] at k0
      have hll := unhide HLL i hlt
      have hrr := unhide HR i
      obtain ⟨r, hr⟩ : ∃ r, ks[i]! = r := ⟨_, rfl⟩
      rw [hr] at hl hll hrr
      have hln : l.n = r.length := law_len hl
      have HLW := hide (hl.below hb)
      have HRR := hide (fun j hj => hrr j hlt hj)
      have HRK := hide hr
      rw [hln] at k0
      have HLN := hide hln
      by_cases hlen : r.length = ks.length
      rotate_left
      · have e2 : ((r.length : Int) == (ks.length : Int)) = false := by rw [beq_eq_false_iff_ne]; omega
        have HN := hide hlen
        clear hb hX hz hcs hl hlen hr hrr hln hll
        go_wp2
        go_ret
        exact ⟨Or.inr ⟨fun x => unhide HN (by rw [← unhide HRK]; exact (x.2.2 i hlt).1), 3, rfl⟩, unhide HB⟩
      have e2 : ((r.length : Int) == (ks.length : Int)) = true := by rw [beq_iff_eq]; omega
      have HLEN := hide hlen
      clear hb hX hz hcs hl hlen hr hrr hln
      go_wp2_with fail
      rw [← unhide HLN]
      refine (anyBelow_any _ r wr (unhide HLW)).mono ?_
      rintro e w2 ⟨(⟨hx, rfl⟩ | ⟨hx, rfl⟩), hb2⟩
      · have HN := hide hx
        have HB2 := hide (below_step (unhide HB) hb2)
        clear hx hb2 k0 e2
        go_wp2
        go_ret
        exact ⟨Or.inr ⟨fun x => unhide HN (by rw [← unhide HRK]; exact (x.2.2 i hlt).2.1), 1, rfl⟩, unhide HB2⟩
      have HNN := hide (Classical.not_not.1 hx)
      have HB2 := hide (below_step (unhide HB) hb2)
      have HX2 := hide ((unhide HX).keep hb2)
      have HLW2 := hide ((unhide HLW).below hb2)
      clear hx hb2 k0 e2 HLW HX
      go_wp2_with fail
      rw [unhide HLN]
      have SU := sumR_any _ r 1 w2 (unhide HLW2) (unhide HRR) (by rw [KKe]; omega)
      simp only [Sl.val, unhide HLN] at SU
      refine SU.mono ?_
      rintro e w3 ⟨v3, rfl, hv3, hb3⟩
      obtain ⟨ts, rfl, hts⟩ := tri_of hv3
      simp only [Tri.val]
      have hqs : RS (qsum r r.length) (r.length * 2 + 1) := qsum_RS (unhide HRR) r.length (Nat.le_refl _)
      obtain ⟨Q, hQ⟩ : ∃ Q, qsum r r.length = Q := ⟨_, rfl⟩
      rw [hQ] at hts hqs
      have Y0 := BoxIs.new hts
      have bA := alloc_below w3 (.cells #[.bool ts.s, .slice ts.a1 ts.n1 ts.c1, .slice ts.a2 ts.n2 ts.c2] 39)
      have HB3 := hide (below_step (below_step (unhide HB2) hb3) bA)
      have HX3 := hide (((unhide HX2).keep hb3).keep bA)
      obtain ⟨W3, hW3⟩ : ∃ W, w3.alloc (.cells #[.bool ts.s, .slice ts.a1 ts.n1 ts.c1, .slice ts.a2 ts.n2 ts.c2] 39) = W := ⟨_, rfl⟩
      obtain ⟨ba, hba⟩ : ∃ g, w3.heap.size = g := ⟨_, rfl⟩
      rw [hW3] at Y0 HB3 HX3
      rw [hba] at Y0
      have HY := hide Y0
      have HCC : Hid (∀ W, Below W3.heap.size W3 W → (fun w' : World => (w'.cell? ⟨ba, 0, none⟩ = some (.bool ts.s) ∧ w'.cell? ⟨ba, 1, none⟩ = some (.slice ts.a1 ts.n1 ts.c1) ∧ w'.cell? ⟨ba, 2, none⟩ = some (.slice ts.a2 ts.n2 ts.c2)) ∧ (w'.cell? ⟨bl, 0, none⟩ = some (.bool t.s) ∧ w'.cell? ⟨bl, 1, none⟩ = some (.slice t.a1 t.n1 t.c1) ∧ w'.cell? ⟨bl, 2, none⟩ = some (.slice t.a2 t.n2 t.c2))) W) := fun W hW => ⟨(unhide HY).cells W hW, (unhide HX3).cells W hW⟩
      have HC1 : Hid (∀ W, Below W3.heap.size W3 W → Calls Tryz.prog 26 #[.agg #[.bool ts.s, .slice ts.a1 ts.n1 ts.c1, .slice ts.a2 ts.n2 ts.c2], .agg #[.bool t.s, .slice t.a1 t.n1 t.c1, .slice t.a2 t.n2 t.c2]] W fun e w' => e = .returned (.int .i64 (cmpv Q q0)) ∧ Below W.heap.size W w') := fun W hW => cmpR_all ts.val t.val _ _ W ((unhide HY).2.below hW) ((unhide HX3).2.below hW) 3000 (hqs.mono (by omega)) ((unhide HR0).mono (by omega)) (by rw [KKe]; omega)
      have HC2 : Hid (∀ W v, Below W3.heap.size W3 W → RatIs W v ((1 : Int) : Rat) → Calls Tryz.prog 26 #[.agg #[.bool ts.s, .slice ts.a1 ts.n1 ts.c1, .slice ts.a2 ts.n2 ts.c2], v] W fun e w' => e = .returned (.int .i64 (cmpv Q ((1 : Int) : Rat))) ∧ Below W.heap.size W w') := fun W v hW hv => cmpR_all ts.val v _ _ W ((unhide HY).2.below hW) hv 3000 (hqs.mono (by omega)) (onei_RS.mono (by omega)) (by rw [KKe]; omega)
      have HQ := hide hQ
      clear hv3 hts hqs hQ Y0 bA hb3 SU HLW2 HX2
      go_wp2_with fail
      clear hW3 hba
      by_cases hlo : Q < q0
      · rw [cmpv_lt hlo] at HC1
        have HLO := hide hlo
        clear hlo
        refine wp_region_hold (fun w' : World => (w'.cell? ⟨ba, 0, none⟩ = some (.bool ts.s) ∧ w'.cell? ⟨ba, 1, none⟩ = some (.slice ts.a1 ts.n1 ts.c1) ∧ w'.cell? ⟨ba, 2, none⟩ = some (.slice ts.a2 ts.n2 ts.c2)) ∧ (w'.cell? ⟨bl, 0, none⟩ = some (.bool t.s) ∧ w'.cell? ⟨bl, 1, none⟩ = some (.slice t.a1 t.n1 t.c1) ∧ w'.cell? ⟨bl, 2, none⟩ = some (.slice t.a2 t.n2 t.c2))) (by kernel_rfl) ?_
        have bd0 : Below W3.heap.size W3 W3.drew := (Below.refl _ _).drew
        have hC0 : (fun w' : World => (w'.cell? ⟨ba, 0, none⟩ = some (.bool ts.s) ∧ w'.cell? ⟨ba, 1, none⟩ = some (.slice ts.a1 ts.n1 ts.c1) ∧ w'.cell? ⟨ba, 2, none⟩ = some (.slice ts.a2 ts.n2 ts.c2)) ∧ (w'.cell? ⟨bl, 0, none⟩ = some (.bool t.s) ∧ w'.cell? ⟨bl, 1, none⟩ = some (.slice t.a1 t.n1 t.c1) ∧ w'.cell? ⟨bl, 2, none⟩ = some (.slice t.a2 t.n2 t.c2))) W3.drew := unhide HCC _ bd0
        refine wpHold_take (i := 0) (v := ?_) rfl (by kernel_rfl) (by kernel_rfl) (by kernel_rfl) (fun _ _ _ h => h) (Or.inl ⟨by rfl, ?_⟩) hC0 ?_
        rotate_left
        · intro w hSw; (try dsimp only at hSw); obtain ⟨⟨z0, z1, z2⟩, z3, z4, z5⟩ := hSw; go_simp; (try with_reducible rfl)
        (try simp only [List.getElem_toArray, List.getElem_cons_succ, List.getElem_cons_zero])
        (try simp only [Act.put, List.setIfInBounds_toArray, List.set_cons_zero, List.set_cons_succ])
        refine wpHold_take (i := 1) (v := ?_) rfl (by kernel_rfl) (by kernel_rfl) (by kernel_rfl) (fun _ _ _ h => h) (Or.inl ⟨by rfl, ?_⟩) hC0 ?_
        rotate_left
        · intro w hSw; (try dsimp only at hSw); obtain ⟨⟨z0, z1, z2⟩, z3, z4, z5⟩ := hSw; go_simp; (try with_reducible rfl)
        (try simp only [List.getElem_toArray, List.getElem_cons_succ, List.getElem_cons_zero])
        (try simp only [Act.put, List.setIfInBounds_toArray, List.set_cons_zero, List.set_cons_succ])
        refine wpHold_one (k := 2) (by kernel_rfl) rfl (fun K hK => ?_)
        (try simp only [List.getElem_toArray, List.getElem_cons_succ, List.getElem_cons_zero])
        go_simp
        refine (unhide HC1 _ bd0).mono ?_
        rintro e xw_1 ⟨rfl, hb_1⟩
        have cc_1 := below_step bd0 hb_1
        have hC_1 : (fun w' : World => (w'.cell? ⟨ba, 0, none⟩ = some (.bool ts.s) ∧ w'.cell? ⟨ba, 1, none⟩ = some (.slice ts.a1 ts.n1 ts.c1) ∧ w'.cell? ⟨ba, 2, none⟩ = some (.slice ts.a2 ts.n2 ts.c2)) ∧ (w'.cell? ⟨bl, 0, none⟩ = some (.bool t.s) ∧ w'.cell? ⟨bl, 1, none⟩ = some (.slice t.a1 t.n1 t.c1) ∧ w'.cell? ⟨bl, 2, none⟩ = some (.slice t.a2 t.n2 t.c2))) xw_1 := unhide HCC _ cc_1
        refine hK.out _ _ hC_1 ?_
        clear hK K
        (try simp only [Act.put, List.setIfInBounds_toArray, List.set_cons_zero, List.set_cons_succ])
        refine wpHold_take (i := 3) (v := ?_) rfl (by kernel_rfl) (by kernel_rfl) (by kernel_rfl) (fun _ _ _ h => h) (Or.inl ⟨by rfl, ?_⟩) hC_1 ?_
        rotate_left
        · intro w hSw; clear hSw; go_simp; (try with_reducible rfl)
        (try simp only [List.getElem_toArray, List.getElem_cons_succ, List.getElem_cons_zero])
        (try simp only [Act.put, List.setIfInBounds_toArray, List.set_cons_zero, List.set_cons_succ])
        refine wpHold_take (i := 4) (v := ?_) rfl (by kernel_rfl) (by kernel_rfl) (by kernel_rfl) (fun _ _ _ h => h) (Or.inl ⟨by rfl, ?_⟩) hC_1 ?_
        rotate_left
        · intro w hSw; clear hSw; go_simp; (try with_reducible rfl)
        (try simp only [List.getElem_toArray, List.getElem_cons_succ, List.getElem_cons_zero])
        (try simp only [Act.put, List.setIfInBounds_toArray, List.set_cons_zero, List.set_cons_succ])
        refine wpHold_take (i := 5) (v := undef) rfl (by kernel_rfl) (by kernel_rfl) (by kernel_rfl) (fun _ _ _ h => h) (Or.inr ⟨by rfl, rfl⟩) hC_1 ?_
        (try simp only [List.getElem_toArray, List.getElem_cons_succ, List.getElem_cons_zero])
        (try simp only [Act.put, List.setIfInBounds_toArray, List.set_cons_zero, List.set_cons_succ])
        refine wpHold_take (i := 6) (v := undef) rfl (by kernel_rfl) (by kernel_rfl) (by kernel_rfl) (fun _ _ _ h => h) (Or.inr ⟨by rfl, rfl⟩) hC_1 ?_
        (try simp only [List.getElem_toArray, List.getElem_cons_succ, List.getElem_cons_zero])
        (try simp only [Act.put, List.setIfInBounds_toArray, List.set_cons_zero, List.set_cons_succ])
        refine wpHold_take (i := 7) (v := undef) rfl (by kernel_rfl) (by kernel_rfl) (by kernel_rfl) (fun _ _ _ h => h) (Or.inr ⟨by rfl, rfl⟩) hC_1 ?_
        (try simp only [List.getElem_toArray, List.getElem_cons_succ, List.getElem_cons_zero])
        (try simp only [Act.put, List.setIfInBounds_toArray, List.set_cons_zero, List.set_cons_succ])
        refine wpHold_take (i := 8) (v := undef) rfl (by kernel_rfl) (by kernel_rfl) (by kernel_rfl) (fun _ _ _ h => h) (Or.inr ⟨by rfl, rfl⟩) hC_1 ?_
        (try simp only [List.getElem_toArray, List.getElem_cons_succ, List.getElem_cons_zero])
        (try simp only [Act.put, List.setIfInBounds_toArray, List.set_cons_zero, List.set_cons_succ])
        refine wpHold_take (i := 9) (v := ?_) rfl (by kernel_rfl) (by kernel_rfl) (by kernel_rfl) (fun _ _ _ h => h) (Or.inl ⟨by rfl, ?_⟩) hC_1 ?_
        rotate_left
        · intro w hSw; clear hSw; go_simp; (try with_reducible rfl)
        (try simp only [List.getElem_toArray, List.getElem_cons_succ, List.getElem_cons_zero])
        (try simp only [Act.put, List.setIfInBounds_toArray, List.set_cons_zero, List.set_cons_succ])
        refine wpHold_done (by kernel_rfl) ?_ _
        have HB4 := hide (below_step (unhide HB3) cc_1)
        clear bd0 hC0 cc_1 hC_1 HCC HC1 HC2 hb_1
        go_wp2
        go_ret
        refine ⟨Or.inr ⟨fun x => ?_, 10, rfl⟩, unhide HB4⟩
        have a := (x.2.2 i hlt).2.2.1
        rw [unhide HRK, ← unhide HLEN, unhide HQ] at a
        have b := unhide HLO
        grind
      · have ⟨u0, u1⟩ := cmpv_ge (a := Q) (b := q0) (by grind)
        obtain ⟨x, hx⟩ : ∃ x, cmpv Q q0 = x := ⟨_, rfl⟩
        rw [hx] at u0 u1 HC1
        have g0 : decide (x < 0) = false := by rw [decide_eq_false_iff_not]; omega
        have HLO := hide hlo
        clear hlo hx
        by_cases hhi : Q ≤ ((1 : Int) : Rat)
        · have ⟨u2, u3⟩ := cmpv_le hhi
          obtain ⟨y, hy⟩ : ∃ y, cmpv Q ((1 : Int) : Rat) = y := ⟨_, rfl⟩
          rw [hy] at u2 u3 HC2
          have g1 : decide (0 < y) = false := by rw [decide_eq_false_iff_not]; omega
          have HHI := hide hhi
          clear hhi hy
          refine wp_region_hold (fun w' : World => (w'.cell? ⟨ba, 0, none⟩ = some (.bool ts.s) ∧ w'.cell? ⟨ba, 1, none⟩ = some (.slice ts.a1 ts.n1 ts.c1) ∧ w'.cell? ⟨ba, 2, none⟩ = some (.slice ts.a2 ts.n2 ts.c2)) ∧ (w'.cell? ⟨bl, 0, none⟩ = some (.bool t.s) ∧ w'.cell? ⟨bl, 1, none⟩ = some (.slice t.a1 t.n1 t.c1) ∧ w'.cell? ⟨bl, 2, none⟩ = some (.slice t.a2 t.n2 t.c2))) (by kernel_rfl) ?_
          have bd0 : Below W3.heap.size W3 W3.drew := (Below.refl _ _).drew
          have hC0 : (fun w' : World => (w'.cell? ⟨ba, 0, none⟩ = some (.bool ts.s) ∧ w'.cell? ⟨ba, 1, none⟩ = some (.slice ts.a1 ts.n1 ts.c1) ∧ w'.cell? ⟨ba, 2, none⟩ = some (.slice ts.a2 ts.n2 ts.c2)) ∧ (w'.cell? ⟨bl, 0, none⟩ = some (.bool t.s) ∧ w'.cell? ⟨bl, 1, none⟩ = some (.slice t.a1 t.n1 t.c1) ∧ w'.cell? ⟨bl, 2, none⟩ = some (.slice t.a2 t.n2 t.c2))) W3.drew := unhide HCC _ bd0
          refine wpHold_take (i := 0) (v := ?_) rfl (by kernel_rfl) (by kernel_rfl) (by kernel_rfl) (fun _ _ _ h => h) (Or.inl ⟨by rfl, ?_⟩) hC0 ?_
          rotate_left
          · intro w hSw; (try dsimp only at hSw); obtain ⟨⟨z0, z1, z2⟩, z3, z4, z5⟩ := hSw; go_simp; (try with_reducible rfl)
          (try simp only [List.getElem_toArray, List.getElem_cons_succ, List.getElem_cons_zero])
          (try simp only [Act.put, List.setIfInBounds_toArray, List.set_cons_zero, List.set_cons_succ])
          refine wpHold_take (i := 1) (v := ?_) rfl (by kernel_rfl) (by kernel_rfl) (by kernel_rfl) (fun _ _ _ h => h) (Or.inl ⟨by rfl, ?_⟩) hC0 ?_
          rotate_left
          · intro w hSw; (try dsimp only at hSw); obtain ⟨⟨z0, z1, z2⟩, z3, z4, z5⟩ := hSw; go_simp; (try with_reducible rfl)
          (try simp only [List.getElem_toArray, List.getElem_cons_succ, List.getElem_cons_zero])
          (try simp only [Act.put, List.setIfInBounds_toArray, List.set_cons_zero, List.set_cons_succ])
          refine wpHold_one (k := 2) (by kernel_rfl) rfl (fun K hK => ?_)
          (try simp only [List.getElem_toArray, List.getElem_cons_succ, List.getElem_cons_zero])
          go_simp
          refine (unhide HC1 _ bd0).mono ?_
          rintro e xw_1 ⟨rfl, hb_1⟩
          have cc_1 := below_step bd0 hb_1
          have hC_1 : (fun w' : World => (w'.cell? ⟨ba, 0, none⟩ = some (.bool ts.s) ∧ w'.cell? ⟨ba, 1, none⟩ = some (.slice ts.a1 ts.n1 ts.c1) ∧ w'.cell? ⟨ba, 2, none⟩ = some (.slice ts.a2 ts.n2 ts.c2)) ∧ (w'.cell? ⟨bl, 0, none⟩ = some (.bool t.s) ∧ w'.cell? ⟨bl, 1, none⟩ = some (.slice t.a1 t.n1 t.c1) ∧ w'.cell? ⟨bl, 2, none⟩ = some (.slice t.a2 t.n2 t.c2))) xw_1 := unhide HCC _ cc_1
          refine hK.out _ _ hC_1 ?_
          clear hK K
          (try simp only [Act.put, List.setIfInBounds_toArray, List.set_cons_zero, List.set_cons_succ])
          refine wpHold_take (i := 3) (v := ?_) rfl (by kernel_rfl) (by kernel_rfl) (by kernel_rfl) (fun _ _ _ h => h) (Or.inl ⟨by rfl, ?_⟩) hC_1 ?_
          rotate_left
          · intro w hSw; clear hSw; go_simp; (try with_reducible rfl)
          (try simp only [List.getElem_toArray, List.getElem_cons_succ, List.getElem_cons_zero])
          (try simp only [Act.put, List.setIfInBounds_toArray, List.set_cons_zero, List.set_cons_succ])
          refine wpHold_take (i := 4) (v := ?_) rfl (by kernel_rfl) (by kernel_rfl) (by kernel_rfl) (fun _ _ _ h => h) (Or.inl ⟨by rfl, ?_⟩) hC_1 ?_
          rotate_left
          · intro w hSw; clear hSw; go_simp; (try with_reducible rfl)
          (try simp only [List.getElem_toArray, List.getElem_cons_succ, List.getElem_cons_zero])
          (try simp only [Act.put, List.setIfInBounds_toArray, List.set_cons_zero, List.set_cons_succ])
          refine wpHold_take (i := 5) (v := ?_) rfl (by kernel_rfl) (by kernel_rfl) (by kernel_rfl) (fun _ _ _ h => h) (Or.inl ⟨by rfl, ?_⟩) hC_1 ?_
          rotate_left
          · intro w hSw; (try dsimp only at hSw); obtain ⟨⟨z0, z1, z2⟩, z3, z4, z5⟩ := hSw; go_simp; (try with_reducible rfl)
          (try simp only [List.getElem_toArray, List.getElem_cons_succ, List.getElem_cons_zero])
          (try simp only [Act.put, List.setIfInBounds_toArray, List.set_cons_zero, List.set_cons_succ])
          refine wpHold_one (k := 6) (by kernel_rfl) rfl (fun K hK => ?_)
          (try simp only [List.getElem_toArray, List.getElem_cons_succ, List.getElem_cons_zero])
          go_simp
          refine (whole_any 1 (by decide) (by decide) _).mono ?_
          rintro e xw_2 ⟨xv_2, rfl, hv_2, hb_2⟩
          have cc_2 := below_step cc_1 hb_2
          have hC_2 : (fun w' : World => (w'.cell? ⟨ba, 0, none⟩ = some (.bool ts.s) ∧ w'.cell? ⟨ba, 1, none⟩ = some (.slice ts.a1 ts.n1 ts.c1) ∧ w'.cell? ⟨ba, 2, none⟩ = some (.slice ts.a2 ts.n2 ts.c2)) ∧ (w'.cell? ⟨bl, 0, none⟩ = some (.bool t.s) ∧ w'.cell? ⟨bl, 1, none⟩ = some (.slice t.a1 t.n1 t.c1) ∧ w'.cell? ⟨bl, 2, none⟩ = some (.slice t.a2 t.n2 t.c2))) xw_2 := unhide HCC _ cc_2
          refine hK.out _ _ hC_2 ?_
          clear hK K
          (try simp only [Act.put, List.setIfInBounds_toArray, List.set_cons_zero, List.set_cons_succ])
          refine wpHold_one (k := 7) (by kernel_rfl) rfl (fun K hK => ?_)
          (try simp only [List.getElem_toArray, List.getElem_cons_succ, List.getElem_cons_zero])
          go_simp
          refine (unhide HC2 _ _ cc_2 hv_2).mono ?_
          rintro e xw_3 ⟨rfl, hb_3⟩
          have cc_3 := below_step cc_2 hb_3
          have hC_3 : (fun w' : World => (w'.cell? ⟨ba, 0, none⟩ = some (.bool ts.s) ∧ w'.cell? ⟨ba, 1, none⟩ = some (.slice ts.a1 ts.n1 ts.c1) ∧ w'.cell? ⟨ba, 2, none⟩ = some (.slice ts.a2 ts.n2 ts.c2)) ∧ (w'.cell? ⟨bl, 0, none⟩ = some (.bool t.s) ∧ w'.cell? ⟨bl, 1, none⟩ = some (.slice t.a1 t.n1 t.c1) ∧ w'.cell? ⟨bl, 2, none⟩ = some (.slice t.a2 t.n2 t.c2))) xw_3 := unhide HCC _ cc_3
          refine hK.out _ _ hC_3 ?_
          clear hK K
          (try simp only [Act.put, List.setIfInBounds_toArray, List.set_cons_zero, List.set_cons_succ])
          refine wpHold_take (i := 8) (v := ?_) rfl (by kernel_rfl) (by kernel_rfl) (by kernel_rfl) (fun _ _ _ h => h) (Or.inl ⟨by rfl, ?_⟩) hC_3 ?_
          rotate_left
          · intro w hSw; clear hSw; go_simp; (try with_reducible rfl)
          (try simp only [List.getElem_toArray, List.getElem_cons_succ, List.getElem_cons_zero])
          (try simp only [Act.put, List.setIfInBounds_toArray, List.set_cons_zero, List.set_cons_succ])
          refine wpHold_take (i := 9) (v := ?_) rfl (by kernel_rfl) (by kernel_rfl) (by kernel_rfl) (fun _ _ _ h => h) (Or.inl ⟨by rfl, ?_⟩) hC_3 ?_
          rotate_left
          · intro w hSw; clear hSw; go_simp; (try with_reducible rfl)
          (try simp only [List.getElem_toArray, List.getElem_cons_succ, List.getElem_cons_zero])
          (try simp only [Act.put, List.setIfInBounds_toArray, List.set_cons_zero, List.set_cons_succ])
          refine wpHold_done (by kernel_rfl) ?_ _
          have HB4 := hide (below_step (unhide HB3) cc_3)
          have HX4 := hide ((unhide HX3).keep cc_3)
          clear bd0 hC0 cc_1 hC_1 cc_2 hC_2 cc_3 hC_3 HCC HC1 HC2 hb_1 hb_2 hb_3 hv_2 HX3 HY
          go_wp2_with fail
          refine ⟨⟨i + 1, by go_num, hlt, unhide HB4, unhide HX4, fun j hj => ?_⟩, by simp [intOf]; omega⟩
          by_cases e : j = i
          · rw [e, unhide HRK, ← unhide HLEN, unhide HQ]
            refine ⟨rfl, unhide HNN, ?_, unhide HHI⟩
            have := unhide HLO
            grind
          · exact unhide HZ j (by omega)
        · rw [cmpv_gt (a := Q) (b := ((1 : Int) : Rat)) (by grind)] at HC2
          have HHI := hide hhi
          clear hhi
          refine wp_region_hold (fun w' : World => (w'.cell? ⟨ba, 0, none⟩ = some (.bool ts.s) ∧ w'.cell? ⟨ba, 1, none⟩ = some (.slice ts.a1 ts.n1 ts.c1) ∧ w'.cell? ⟨ba, 2, none⟩ = some (.slice ts.a2 ts.n2 ts.c2)) ∧ (w'.cell? ⟨bl, 0, none⟩ = some (.bool t.s) ∧ w'.cell? ⟨bl, 1, none⟩ = some (.slice t.a1 t.n1 t.c1) ∧ w'.cell? ⟨bl, 2, none⟩ = some (.slice t.a2 t.n2 t.c2))) (by kernel_rfl) ?_
          have bd0 : Below W3.heap.size W3 W3.drew := (Below.refl _ _).drew
          have hC0 : (fun w' : World => (w'.cell? ⟨ba, 0, none⟩ = some (.bool ts.s) ∧ w'.cell? ⟨ba, 1, none⟩ = some (.slice ts.a1 ts.n1 ts.c1) ∧ w'.cell? ⟨ba, 2, none⟩ = some (.slice ts.a2 ts.n2 ts.c2)) ∧ (w'.cell? ⟨bl, 0, none⟩ = some (.bool t.s) ∧ w'.cell? ⟨bl, 1, none⟩ = some (.slice t.a1 t.n1 t.c1) ∧ w'.cell? ⟨bl, 2, none⟩ = some (.slice t.a2 t.n2 t.c2))) W3.drew := unhide HCC _ bd0
          refine wpHold_take (i := 0) (v := ?_) rfl (by kernel_rfl) (by kernel_rfl) (by kernel_rfl) (fun _ _ _ h => h) (Or.inl ⟨by rfl, ?_⟩) hC0 ?_
          rotate_left
          · intro w hSw; (try dsimp only at hSw); obtain ⟨⟨z0, z1, z2⟩, z3, z4, z5⟩ := hSw; go_simp; (try with_reducible rfl)
          (try simp only [List.getElem_toArray, List.getElem_cons_succ, List.getElem_cons_zero])
          (try simp only [Act.put, List.setIfInBounds_toArray, List.set_cons_zero, List.set_cons_succ])
          refine wpHold_take (i := 1) (v := ?_) rfl (by kernel_rfl) (by kernel_rfl) (by kernel_rfl) (fun _ _ _ h => h) (Or.inl ⟨by rfl, ?_⟩) hC0 ?_
          rotate_left
          · intro w hSw; (try dsimp only at hSw); obtain ⟨⟨z0, z1, z2⟩, z3, z4, z5⟩ := hSw; go_simp; (try with_reducible rfl)
          (try simp only [List.getElem_toArray, List.getElem_cons_succ, List.getElem_cons_zero])
          (try simp only [Act.put, List.setIfInBounds_toArray, List.set_cons_zero, List.set_cons_succ])
          refine wpHold_one (k := 2) (by kernel_rfl) rfl (fun K hK => ?_)
          (try simp only [List.getElem_toArray, List.getElem_cons_succ, List.getElem_cons_zero])
          go_simp
          refine (unhide HC1 _ bd0).mono ?_
          rintro e xw_1 ⟨rfl, hb_1⟩
          have cc_1 := below_step bd0 hb_1
          have hC_1 : (fun w' : World => (w'.cell? ⟨ba, 0, none⟩ = some (.bool ts.s) ∧ w'.cell? ⟨ba, 1, none⟩ = some (.slice ts.a1 ts.n1 ts.c1) ∧ w'.cell? ⟨ba, 2, none⟩ = some (.slice ts.a2 ts.n2 ts.c2)) ∧ (w'.cell? ⟨bl, 0, none⟩ = some (.bool t.s) ∧ w'.cell? ⟨bl, 1, none⟩ = some (.slice t.a1 t.n1 t.c1) ∧ w'.cell? ⟨bl, 2, none⟩ = some (.slice t.a2 t.n2 t.c2))) xw_1 := unhide HCC _ cc_1
          refine hK.out _ _ hC_1 ?_
          clear hK K
          (try simp only [Act.put, List.setIfInBounds_toArray, List.set_cons_zero, List.set_cons_succ])
          refine wpHold_take (i := 3) (v := ?_) rfl (by kernel_rfl) (by kernel_rfl) (by kernel_rfl) (fun _ _ _ h => h) (Or.inl ⟨by rfl, ?_⟩) hC_1 ?_
          rotate_left
          · intro w hSw; clear hSw; go_simp; (try with_reducible rfl)
          (try simp only [List.getElem_toArray, List.getElem_cons_succ, List.getElem_cons_zero])
          (try simp only [Act.put, List.setIfInBounds_toArray, List.set_cons_zero, List.set_cons_succ])
          refine wpHold_take (i := 4) (v := ?_) rfl (by kernel_rfl) (by kernel_rfl) (by kernel_rfl) (fun _ _ _ h => h) (Or.inl ⟨by rfl, ?_⟩) hC_1 ?_
          rotate_left
          · intro w hSw; clear hSw; go_simp; (try with_reducible rfl)
          (try simp only [List.getElem_toArray, List.getElem_cons_succ, List.getElem_cons_zero])
          (try simp only [Act.put, List.setIfInBounds_toArray, List.set_cons_zero, List.set_cons_succ])
          refine wpHold_take (i := 5) (v := ?_) rfl (by kernel_rfl) (by kernel_rfl) (by kernel_rfl) (fun _ _ _ h => h) (Or.inl ⟨by rfl, ?_⟩) hC_1 ?_
          rotate_left
          · intro w hSw; (try dsimp only at hSw); obtain ⟨⟨z0, z1, z2⟩, z3, z4, z5⟩ := hSw; go_simp; (try with_reducible rfl)
          (try simp only [List.getElem_toArray, List.getElem_cons_succ, List.getElem_cons_zero])
          (try simp only [Act.put, List.setIfInBounds_toArray, List.set_cons_zero, List.set_cons_succ])
          refine wpHold_one (k := 6) (by kernel_rfl) rfl (fun K hK => ?_)
          (try simp only [List.getElem_toArray, List.getElem_cons_succ, List.getElem_cons_zero])
          go_simp
          refine (whole_any 1 (by decide) (by decide) _).mono ?_
          rintro e xw_2 ⟨xv_2, rfl, hv_2, hb_2⟩
          have cc_2 := below_step cc_1 hb_2
          have hC_2 : (fun w' : World => (w'.cell? ⟨ba, 0, none⟩ = some (.bool ts.s) ∧ w'.cell? ⟨ba, 1, none⟩ = some (.slice ts.a1 ts.n1 ts.c1) ∧ w'.cell? ⟨ba, 2, none⟩ = some (.slice ts.a2 ts.n2 ts.c2)) ∧ (w'.cell? ⟨bl, 0, none⟩ = some (.bool t.s) ∧ w'.cell? ⟨bl, 1, none⟩ = some (.slice t.a1 t.n1 t.c1) ∧ w'.cell? ⟨bl, 2, none⟩ = some (.slice t.a2 t.n2 t.c2))) xw_2 := unhide HCC _ cc_2
          refine hK.out _ _ hC_2 ?_
          clear hK K
          (try simp only [Act.put, List.setIfInBounds_toArray, List.set_cons_zero, List.set_cons_succ])
          refine wpHold_one (k := 7) (by kernel_rfl) rfl (fun K hK => ?_)
          (try simp only [List.getElem_toArray, List.getElem_cons_succ, List.getElem_cons_zero])
          go_simp
          refine (unhide HC2 _ _ cc_2 hv_2).mono ?_
          rintro e xw_3 ⟨rfl, hb_3⟩
          have cc_3 := below_step cc_2 hb_3
          have hC_3 : (fun w' : World => (w'.cell? ⟨ba, 0, none⟩ = some (.bool ts.s) ∧ w'.cell? ⟨ba, 1, none⟩ = some (.slice ts.a1 ts.n1 ts.c1) ∧ w'.cell? ⟨ba, 2, none⟩ = some (.slice ts.a2 ts.n2 ts.c2)) ∧ (w'.cell? ⟨bl, 0, none⟩ = some (.bool t.s) ∧ w'.cell? ⟨bl, 1, none⟩ = some (.slice t.a1 t.n1 t.c1) ∧ w'.cell? ⟨bl, 2, none⟩ = some (.slice t.a2 t.n2 t.c2))) xw_3 := unhide HCC _ cc_3
          refine hK.out _ _ hC_3 ?_
          clear hK K
          (try simp only [Act.put, List.setIfInBounds_toArray, List.set_cons_zero, List.set_cons_succ])
          refine wpHold_take (i := 8) (v := ?_) rfl (by kernel_rfl) (by kernel_rfl) (by kernel_rfl) (fun _ _ _ h => h) (Or.inl ⟨by rfl, ?_⟩) hC_3 ?_
          rotate_left
          · intro w hSw; clear hSw; go_simp; (try with_reducible rfl)
          (try simp only [List.getElem_toArray, List.getElem_cons_succ, List.getElem_cons_zero])
          (try simp only [Act.put, List.setIfInBounds_toArray, List.set_cons_zero, List.set_cons_succ])
          refine wpHold_take (i := 9) (v := ?_) rfl (by kernel_rfl) (by kernel_rfl) (by kernel_rfl) (fun _ _ _ h => h) (Or.inl ⟨by rfl, ?_⟩) hC_3 ?_
          rotate_left
          · intro w hSw; clear hSw; go_simp; (try with_reducible rfl)
          (try simp only [List.getElem_toArray, List.getElem_cons_succ, List.getElem_cons_zero])
          (try simp only [Act.put, List.setIfInBounds_toArray, List.set_cons_zero, List.set_cons_succ])
          refine wpHold_done (by kernel_rfl) ?_ _
          have HB4 := hide (below_step (unhide HB3) cc_3)
          clear bd0 hC0 cc_1 hC_1 cc_2 hC_2 cc_3 hC_3 HCC HC1 HC2 hb_1 hb_2 hb_3 hv_2 HX3 HY
          go_wp2
          go_ret
          refine ⟨Or.inr ⟨fun x => ?_, 10, rfl⟩, unhide HB4⟩
          have a := (x.2.2 i hlt).2.2.2
          rw [unhide HRK, ← unhide HLEN, unhide HQ] at a
          exact unhide HHI a
    · obtain rfl : i = ks.length := by omega
      have e1 : ¬ (ks.length : Int) < (ks.length : Int) := by omega
      clear hb hX hz
      go_wp2
      go_ret
      exact ⟨Or.inl ⟨⟨by have ⟨f1, f2⟩ := unhide HFIT; omega, by have ⟨f1, f2⟩ := unhide HFIT; omega, fun j hj => unhide HZ j hj⟩, rfl⟩, unhide HB⟩
end Go.Proofs.YtdaejkngmckmdaaGreatDoor
