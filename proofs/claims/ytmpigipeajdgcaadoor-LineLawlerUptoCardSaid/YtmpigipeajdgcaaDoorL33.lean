/- Lawler: rows of rows, who is ahead how often, what one costs, who is free, the cheapest. -/
import Derived.Test.YtmpigipeajdgcaaDoorL7
import Derived.Test.YtmpigipeajdgcaaDoorM27
namespace Go.Proofs.YtmpigipeajdgcaaDoor
open Go.RowKit Go.Sort

/-- A row of rows of ints in memory: row i is H i, its numbers are R i. -/
def RRow (w : World) (a : Option Addr) (n c : Nat) (H : Nat → Option Addr × Nat × Nat) (R : Nat → Nat → Int) : Prop :=
  n ≤ c ∧ c ≤ 9223372036854775807 ∧ (∀ i, i < n → IRow w (H i).1 (H i).2.1 (H i).2.2 (R i)) ∧ (0 < n → ∃ b o, a = some ⟨b, o, none⟩ ∧ b < w.heap.size ∧ ∀ i, i < n → w.cell? ⟨b, o + i, none⟩ = some (.slice (H i).1 (H i).2.1 (H i).2.2))
theorem RRow.below {w w' : World} {a : Option Addr} {n c : Nat} {H : Nat → Option Addr × Nat × Nat} {R : Nat → Nat → Int} (h : RRow w a n c H R) (hb : Below w.heap.size w w') : RRow w' a n c H R := by
  obtain ⟨h1, h2, h3, h4⟩ := h
  refine ⟨h1, h2, fun i hi => (h3 i hi).below hb, fun hn => ?_⟩
  obtain ⟨b, o, e, hlt, hc⟩ := h4 hn
  refine ⟨b, o, e, Nat.lt_of_lt_of_le hlt hb.size, fun j hj => ?_⟩
  rw [hb.cell (p := ⟨b, o + j, none⟩) hlt]
  exact hc j hj
def lnH (H : Nat → Option Addr × Nat × Nat) (i : Nat) : Nat := (H i).2.1
def badA (n : Nat) (R : Nat → Nat → Int) (ln : Nat → Nat) : Bool := (List.range n).any fun i => (List.range (ln i)).any fun j => decide (R i j < 0 ∨ (n : Int) ≤ R i j)
def lcode (n m : Nat) (R : Nat → Nat → Int) (ln : Nat → Nat) : Int := if m ≠ n then 3 else if badA n R ln then 2 else 0
theorem badA_true {n : Nat} {R : Nat → Nat → Int} {ln : Nat → Nat} {i j : Nat} (hi : i < n) (hj : j < ln i) (h : R i j < 0 ∨ (n : Int) ≤ R i j) : badA n R ln = true :=
  List.any_eq_true.2 ⟨i, List.mem_range.2 hi, List.any_eq_true.2 ⟨j, List.mem_range.2 hj, decide_eq_true h⟩⟩
theorem badA_false {n : Nat} {R : Nat → Nat → Int} {ln : Nat → Nat} (h : ∀ i j, i < n → j < ln i → 0 ≤ R i j ∧ R i j < (n : Int)) : badA n R ln = false := by
  cases hb : badA n R ln with
  | false => rfl
  | true =>
    obtain ⟨i, h1, h2⟩ := List.any_eq_true.1 hb
    obtain ⟨j, h3, h4⟩ := List.any_eq_true.1 h2
    have h5 := of_decide_eq_true h4
    have := h i j (List.mem_range.1 h1) (List.mem_range.1 h3)
    omega
theorem lcode_zero {n m : Nat} {R : Nat → Nat → Int} {ln : Nat → Nat} (h : lcode n m R ln = 0) : m = n ∧ ∀ i j, i < n → j < ln i → 0 ≤ R i j ∧ R i j < (n : Int) := by
  unfold lcode at h
  by_cases c : m = n
  · rw [if_neg (by simpa using c)] at h
    refine ⟨c, fun i j hi hj => ?_⟩
    by_cases c2 : R i j < 0 ∨ (n : Int) ≤ R i j
    · rw [if_pos (badA_true hi hj c2)] at h; exact absurd h (by decide)
    · omega
  · rw [if_pos c] at h; exact absurd h (by decide)
def bhs (R : Nat → Nat → Int) (ln : Nat → Nat) (i k : Nat) : Int := Lin.usum (fun i => Lin.cnt (R i) k (ln i)) (fun _ => false) i
theorem bhs_succ (R : Nat → Nat → Int) (ln : Nat → Nat) (i k : Nat) : bhs R ln (i + 1) k = bhs R ln i k + Lin.cnt (R i) k (ln i) := rfl
theorem bhs_bd {R : Nat → Nat → Int} {ln : Nat → Nat} (hl : ∀ i, ln i ≤ 1048576) (i k : Nat) : 0 ≤ bhs R ln i k ∧ bhs R ln i k ≤ 1048576 * i :=
  Lin.usum_bd (B := 1048576) _ i (fun q _ => by have := Lin.cnt_bd (R q) k (ln q); have := hl q; omega) (by decide)
def FPost (w : World) (n m : Nat) (R : Nat → Nat → Int) (ln : Nat → Nat) (e : Ending) (w' : World) : Prop :=
  Below w.heap.size w w' ∧ ((lcode n m R ln ≠ 0 ∧ e = .returned (.tuple #[.slice none 0 0, .iface 24 (.int .i64 (lcode n m R ln))])) ∨ (lcode n m R ln = 0 ∧ ∃ G, w.heap.size ≤ G ∧ e = .returned (.tuple #[.slice (some ⟨G, 0, none⟩) n n, .nilIface]) ∧ OwnI w' G n (bhs R ln n)))

set_option maxHeartbeats 8000000 in
set_option maxRecDepth 100000 in
set_option linter.unusedSimpArgs false in
theorem followers_any (va : Option Addr) (m c : Nat) (H : Nat → Option Addr × Nat × Nat) (R : Nat → Nat → Int) (n : Nat) (w : World) (hr : RRow w va m c H R) (hl : ∀ i, lnH H i ≤ 1048576) (hn : n ≤ 60) :
    Calls Tryd.prog 45 #[.slice va m c, .int .i64 (n : Int)] w (FPost w n m R (lnH H)) := by
  by_cases hne : m = n
  case neg =>
    have hv : lcode n m R (lnH H) = 3 := by unfold lcode; rw [if_pos hne]
    have HV := hide hv
    have e0 : ((m : Int) == (n : Int)) = false := by simp; omega
    have q1 := hr.1
    have q2 := hr.2.1
    clear hr hv
    go_enter Tryd.func45, Tryd.ntmps45
    go_wp2
    go_ret2
    refine ⟨Below.refl _ _, Or.inl ?_⟩
    rw [unhide HV]
    exact ⟨by decide, rfl⟩
  subst hne
  have HR := hide hr
  have HL := hide hl
  have q1 := hr.1
  have q2 := hr.2.1
  have mk := make_ints m (by omega) w
  have O0 := hide (make_own w m)
  have B0 := hide (alloc_below w (.cells (lrow (fun _ => 0) m).toArray 3))
  obtain ⟨W0, hW0⟩ : ∃ W, w.alloc (.cells (lrow (fun _ => 0) m).toArray 3) = W := ⟨_, rfl⟩
  rw [hW0] at mk O0 B0
  obtain ⟨G, hG⟩ : ∃ G, w.heap.size = G := ⟨_, rfl⟩
  rw [hG] at mk O0
  have HGE : Hid (w.heap.size ≤ G) := Nat.le_of_eq hG
  have e00 : ((m : Int) == (m : Int)) = true := by simp
  clear hr hl hW0 hG
  go_enter Tryd.func45, Tryd.ntmps45
  go_wp2_with fail
  clear mk e00
  go_loopw [20] (fun vi wr => ∃ i : Nat, vi = .int .i64 (i : Int) ∧ i ≤ m ∧ (∀ q j, q < i → j < lnH H q → 0 ≤ R q j ∧ R q j < (m : Int)) ∧ OwnI wr G m (bhs R (lnH H) i) ∧ Below w.heap.size w wr) (fun vi _ => m - (intOf vi).toNat)
  case atStart => exact ⟨0, rfl, Nat.zero_le _, fun q j hq => absurd hq (Nat.not_lt_zero _), unhide O0, unhide B0⟩
  case round =>
    obtain ⟨i, rfl, hi, hin, hO, hb⟩ := hrel
    by_cases hlt : i < m
    · obtain ⟨_, _, h3, h4⟩ := unhide HR
      obtain ⟨b, o, rfl, hbl, hc⟩ := h4 (by omega)
      have c0 := hc i hlt
      rw [← hb.cell (p := ⟨b, o + i, none⟩) hbl] at c0
      have hrow := h3 i hlt
      have hli := unhide HL i
      obtain ⟨⟨ha, hl0, hcp⟩, hH⟩ : ∃ t, H i = t := ⟨_, rfl⟩
      have hlH : lnH H i = hl0 := by unfold lnH; rw [hH]
      rw [hH] at c0 hrow
      rw [hlH] at hli
      simp only at c0 hrow
      have HROW := hide hrow
      have HLH := hide hlH
      have HIN := hide hin
      have HO := hide hO
      have HB := hide hb
      have e1 : (0 : Int) ≤ (i : Int) := by omega
      have e2 : (i : Int) < (m : Int) := by omega
      have e6 : IntKind.i64.wrap ((i : Int) + 1) = (i : Int) + 1 := by rw [IntKind.wrap_i64]; omega
      have q3 := hrow.1
      have q4 := hrow.2.1
      clear h3 h4 hc hrow hH hlH hin hO hb
      go_wp2_with fail
      go_loopw [26] (fun vj wv => ∃ j : Nat, vj = .int .i64 (j : Int) ∧ j ≤ hl0 ∧ (∀ q, q < j → 0 ≤ R i q ∧ R i q < (m : Int)) ∧ OwnI wv G m (fun k => bhs R (lnH H) i k + Lin.cnt (R i) k j) ∧ Below w.heap.size w wv) (fun vj _ => hl0 - (intOf vj).toNat)
      case atStart => exact ⟨0, rfl, Nat.zero_le _, fun q hq => absurd hq (Nat.not_lt_zero _), (unhide HO).congr (fun k _ => by show _ = _ + (0 : Int); omega), unhide HB⟩
      case round =>
        obtain ⟨j, rfl, hj, hjn, hO2, hb2⟩ := hrel
        by_cases hjl : j < hl0
        · obtain ⟨b2, o2, rfl, hbl2, hc2⟩ := (unhide HROW).2.2 (by omega)
          have k0 := hc2 j hjl
          rw [← hb2.cell (p := ⟨b2, o2 + j, none⟩) hbl2] at k0
          obtain ⟨x, hx⟩ : ∃ x, R i j = x := ⟨_, rfl⟩
          rw [hx] at k0
          have HX := hide hx
          have HJN := hide hjn
          have f1 : (0 : Int) ≤ (j : Int) := by omega
          have f2 : (j : Int) < (hl0 : Int) := by omega
          have f3 : IntKind.i64.wrap ((m : Int) - 1) = (m : Int) - 1 := by rw [IntKind.wrap_i64]; omega
          have f6 : IntKind.i64.wrap ((j : Int) + 1) = (j : Int) + 1 := by rw [IntKind.wrap_i64]; omega
          have C1 := hide (within_any x ((m : Int) - 1) wr)
          by_cases gx : 0 ≤ x ∧ x ≤ (m : Int) - 1
          · rw [decide_eq_true gx] at C1
            obtain ⟨k, rfl⟩ : ∃ k : Nat, x = (k : Int) := ⟨x.toNat, by omega⟩
            have hkm : k < m := by omega
            have g1 := hO2.cell hkm
            have g2 := hO2.free k
            have v1 := bhs_bd (R := R) (unhide HL) i k
            have v2 := Lin.cnt_bd (R i) k j
            obtain ⟨u, hu⟩ : ∃ u, bhs R (lnH H) i k + Lin.cnt (R i) k j = u := ⟨_, rfl⟩
            rw [hu] at g1
            have g3 : IntKind.i64.wrap (u + 1) = u + 1 := by rw [IntKind.wrap_i64]; omega
            have g4 : (0 : Int) ≤ (k : Int) := by omega
            have g5 : (k : Int) < (m : Int) := by omega
            have FIN : Hid (OwnI (wr.setCell ⟨G, k, none⟩ (.int .i64 (u + 1))) G m (fun q => bhs R (lnH H) i q + Lin.cnt (R i) q (j + 1))) := by
              refine (hO2.set k (u + 1)).congr fun q hq => ?_
              unfold updI
              show _ = bhs R (lnH H) i q + (Lin.cnt (R i) q j + (if R i j = (q : Int) then 1 else 0))
              by_cases hqk : q = k
              · rw [if_pos hqk, if_pos (by rw [hx, hqk]), hqk]; omega
              · rw [if_neg hqk, if_neg (by rw [hx]; omega)]
                show bhs R (lnH H) i q + Lin.cnt (R i) q j = _
                omega
            have FB := hide (hb2.setCell (p := ⟨G, k, none⟩) (unhide HGE) (.int .i64 (u + 1)))
            have HGX := hide gx
            clear hc2 hx hjn gx v1 v2 hu hO2 hb2
            go_wp2_with fail
            refine (unhide C1).mono ?_
            rintro e_ w2 ⟨rfl, rfl⟩
            go_wp2
            refine ⟨⟨j + 1, by go_num, hjl, fun q hq => ?_, unhide FIN, unhide FB⟩, by simp [intOf]; omega⟩
            rcases Nat.lt_or_ge q j with c1 | c1
            · exact unhide HJN q c1
            · rw [show q = j by omega, unhide HX]
              have := unhide HGX
              omega
          · rw [decide_eq_false gx] at C1
            have HV : Hid (lcode m m R (lnH H) = 2) := by
              show lcode m m R (lnH H) = 2
              unfold lcode
              rw [if_neg (by simp), if_pos (badA_true hlt (by rw [unhide HLH]; exact hjl) (by rw [hx]; omega))]
            have HB2 := hide hb2
            clear hc2 hx hjn gx hO2 hb2
            go_wp2_with fail
            refine (unhide C1).mono ?_
            rintro e_ w2 ⟨rfl, rfl⟩
            go_wp2
            go_ret2
            refine ⟨unhide HB2, Or.inl ?_⟩
            rw [unhide HV]
            exact ⟨by decide, rfl⟩
        · obtain rfl : j = hl0 := by omega
          have f2 : ¬ (j : Int) < (j : Int) := by omega
          have FIN : Hid (OwnI wr G m (bhs R (lnH H) (i + 1))) := hO2.congr fun k _ => by rw [bhs_succ, unhide HLH]
          have HB2 := hide hb2
          have HJN := hide hjn
          clear hO2 hb2 hjn
          go_wp2_with fail
          (try simp only [Exit.inBlock, Exit.then])
          (try go_wp2_with fail)
          refine ⟨⟨i + 1, by go_num, hlt, fun q p hq hp => ?_, unhide FIN, unhide HB2⟩, by simp [intOf]; omega⟩
          rcases Nat.lt_or_ge q i with c1 | c1
          · exact unhide HIN q p c1 hp
          · obtain rfl : q = i := by omega
            rw [unhide HLH] at hp
            exact unhide HJN p hp
    · obtain rfl : i = m := by omega
      have e2 : ¬ (i : Int) < (i : Int) := by omega
      have HV : Hid (lcode i i R (lnH H) = 0) := by
        show lcode i i R (lnH H) = 0
        unfold lcode
        rw [if_neg (by simp), badA_false hin]
        rfl
      have HO := hide hO
      have HB := hide hb
      clear hO hb hin
      go_wp2
      go_ret2
      exact ⟨unhide HB, Or.inr ⟨unhide HV, G, unhide HGE, rfl, unhide HO⟩⟩

/-- What Lawler's closures read. -/
structure LB (W : World) (pl pe pp pb G1 G2 : Nat) (a : Option Addr) (n c : Nat) (f : Nat → T3) (E : Int) (P : Nat → Bool) (B : Nat → Int) : Prop where
  cl : W.cell? ⟨pl, 0, none⟩ = some (.slice a n c)
  ce : W.cell? ⟨pe, 0, none⟩ = some (.int .i64 E)
  cp : W.cell? ⟨pp, 0, none⟩ = some (.slice (some ⟨G2, 0, none⟩) n n)
  cb : W.cell? ⟨pb, 0, none⟩ = some (.slice (some ⟨G1, 0, none⟩) n n)
  o1 : OwnI W G1 n B
  o2 : OwnB W G2 n P
  t : TRow W a n c f
theorem LB.keep {W W' : World} {pl pe pp pb G1 G2 : Nat} {a : Option Addr} {n c : Nat} {f : Nat → T3} {E : Int} {P : Nat → Bool} {B : Nat → Int} (h : LB W pl pe pp pb G1 G2 a n c f E P B) (hb : Below W.heap.size W W') : LB W' pl pe pp pb G1 G2 a n c f E P B :=
  ⟨by rw [hb.cell (p := ⟨pl, 0, none⟩) (World.block_lt_of_cell? W _ h.cl)]; exact h.cl, by rw [hb.cell (p := ⟨pe, 0, none⟩) (World.block_lt_of_cell? W _ h.ce)]; exact h.ce, by rw [hb.cell (p := ⟨pp, 0, none⟩) (World.block_lt_of_cell? W _ h.cp)]; exact h.cp, by rw [hb.cell (p := ⟨pb, 0, none⟩) (World.block_lt_of_cell? W _ h.cb)]; exact h.cb, h.o1.keep hb, h.o2.keep hb, h.t.below hb⟩
def cstV (f : Nat → T3) (E : Int) (i : Nat) : Int := wT f i * max 0 (E - dT f i)
def freV (P : Nat → Bool) (B : Nat → Int) (i : Nat) : Bool := !P i && decide (B i = 0)

set_option maxHeartbeats 8000000 in
set_option maxRecDepth 100000 in
set_option linter.unusedSimpArgs false in
theorem cost1_any (pl pe pp pb G1 G2 : Nat) (a : Option Addr) (n c : Nat) (f : Nat → T3) (E : Int) (P : Nat → Bool) (B : Nat → Int) (W : World) (h : LB W pl pe pp pb G1 G2 a n c f E P B) (hT : GoodT n f) (hE : 0 ≤ E ∧ E ≤ 60000000000) (i : Nat) (hi : i < n) :
    Calls Tryd.prog 46 #[.int .i64 (i : Int), .pointer (some ⟨pl, 0, none⟩), .pointer (some ⟨pe, 0, none⟩)] W fun e w' => e = .returned (.int .i64 (cstV f E i)) ∧ Below W.heap.size W w' := by
  obtain ⟨b, o, rfl, hbl, hc⟩ := h.t.2.2 (by omega)
  have ⟨_, t2, t3⟩ := hc i hi
  have cl := h.cl
  have ce := h.ce
  have hw := hT.w i hi
  have hd := hT.d i hi
  have hn60 := hT.few
  have hV : cstV f E i = (f i).2.1 * max 0 (E - (f i).2.2) := rfl
  obtain ⟨y, hy⟩ : ∃ y, (f i).2.1 = y := ⟨_, rfl⟩
  obtain ⟨z, hz⟩ : ∃ z, (f i).2.2 = z := ⟨_, rfl⟩
  rw [hy] at t2 hw hV
  rw [hz] at t3 hd hV
  obtain ⟨t, ht⟩ : ∃ t, E - z = t := ⟨_, rfl⟩
  rw [ht] at hV
  have e1 : (i : Int) < (n : Int) := by omega
  have e2 : (0 : Int) ≤ (i : Int) := by omega
  have e3 : IntKind.i64.wrap (E - z) = t := by rw [ht, IntKind.wrap_i64]; omega
  by_cases h0 : 0 < t
  · have hV' : cstV f E i = y * t := by rw [hV, show max 0 t = t by omega]
    rw [hV']
    have m1 : 0 ≤ y * t := Int.mul_nonneg hw.1 (by omega)
    have m2 : y * t ≤ 10000 * 60000000000 := Int.le_trans (Int.mul_le_mul_of_nonneg_right hw.2 (by omega)) (Int.mul_le_mul_of_nonneg_left (by omega) (by decide))
    obtain ⟨v, hv⟩ : ∃ v, y * t = v := ⟨_, rfl⟩
    have e4 : IntKind.i64.wrap (y * t) = v := by rw [hv, IntKind.wrap_i64]; omega
    rw [hv]
    clear h hT hE hc hw hd hV hV' hy hz ht m1 m2 hv hi hbl
    go_enter Tryd.func46, Tryd.ntmps46
    go_wp2_with fail
    go_region
    go_wp2
    go_ret
    exact ⟨rfl, drew_below _⟩
  · have hV' : cstV f E i = 0 := by rw [hV, show max 0 t = 0 by omega, Int.mul_zero]
    rw [hV']
    clear h hT hE hc hw hd hV hV' hy hz ht hi hbl
    go_enter Tryd.func46, Tryd.ntmps46
    go_wp2_with fail
    go_region
    go_wp2
    go_ret
    exact ⟨rfl, drew_below _⟩
set_option maxHeartbeats 8000000 in
set_option maxRecDepth 100000 in
set_option linter.unusedSimpArgs false in
theorem free_any (pl pe pp pb G1 G2 : Nat) (a : Option Addr) (n c : Nat) (f : Nat → T3) (E : Int) (P : Nat → Bool) (B : Nat → Int) (W : World) (h : LB W pl pe pp pb G1 G2 a n c f E P B) (i : Nat) (hi : i < n) :
    Calls Tryd.prog 47 #[.int .i64 (i : Int), .pointer (some ⟨pp, 0, none⟩), .pointer (some ⟨pb, 0, none⟩)] W fun e w' => e = .returned (.bool (freV P B i)) ∧ Below W.heap.size W w' := by
  have cp := h.cp
  have cb := h.cb
  have g1 := h.o1.cell hi
  have g2 := h.o2.cell hi
  have hV : freV P B i = (!P i && decide (B i = 0)) := rfl
  obtain ⟨x, hx⟩ : ∃ x, B i = x := ⟨_, rfl⟩
  rw [hx] at g1 hV
  have e1 : (i : Int) < (n : Int) := by omega
  have e2 : (0 : Int) ≤ (i : Int) := by omega
  cases hP : P i with
  | true =>
    rw [hP] at hV g2
    have hV' : freV P B i = false := by rw [hV]; rfl
    rw [hV']
    clear h hx hV hV' hi
    go_enter Tryd.func47, Tryd.ntmps47
    go_wp2
    go_ret
    exact ⟨rfl, Below.refl _ _⟩
  | false =>
    rw [hP] at hV g2
    by_cases h0 : x = 0
    · have hV' : freV P B i = true := by rw [hV, decide_eq_true h0]; rfl
      rw [hV']
      subst h0
      clear h hV hV' hi
      go_enter Tryd.func47, Tryd.ntmps47
      go_wp2
      go_ret
      exact ⟨rfl, Below.refl _ _⟩
    · have hV' : freV P B i = false := by rw [hV, decide_eq_false h0]; rfl
      rw [hV']
      have q1 : (x == 0) = false := by simpa using h0
      clear h hx hV hV' hi
      go_enter Tryd.func47, Tryd.ntmps47
      go_wp2
      go_ret
      exact ⟨rfl, Below.refl _ _⟩

set_option maxHeartbeats 8000000 in
set_option maxRecDepth 100000 in
set_option linter.unusedSimpArgs false in
theorem cheapest_any (pl pe pp pb G1 G2 : Nat) (a : Option Addr) (n c : Nat) (f : Nat → T3) (E : Int) (P : Nat → Bool) (B : Nat → Int) (w : World) (h : LB w pl pe pp pb G1 G2 a n c f E P B) (hT : GoodT n f) (hE : 0 ≤ E ∧ E ≤ 60000000000) :
    Calls Tryd.prog 48 #[.int .i64 (n : Int), .func (.func 46) #[] #[.pointer (some ⟨pl, 0, none⟩), .pointer (some ⟨pe, 0, none⟩)], .func (.func 47) #[] #[.pointer (some ⟨pp, 0, none⟩), .pointer (some ⟨pb, 0, none⟩)]] w fun e w' => e = .returned (.tuple #[.int .i64 (((Lin.ck (freV P B) (cstV f E) n).1 : Nat) : Int), .bool (Lin.ck (freV P B) (cstV f E) n).2]) ∧ Below w.heap.size w w' := by
  have HC : Hid (∀ i W, i < n → Below w.heap.size w W → Calls Tryd.prog 46 #[.int .i64 (i : Int), .pointer (some ⟨pl, 0, none⟩), .pointer (some ⟨pe, 0, none⟩)] W fun e w' => e = .returned (.int .i64 (cstV f E i)) ∧ Below W.heap.size W w') := fun i W hi hW => cost1_any pl pe pp pb G1 G2 a n c f E P B W (h.keep hW) hT hE i hi
  have HF : Hid (∀ i W, i < n → Below w.heap.size w W → Calls Tryd.prog 47 #[.int .i64 (i : Int), .pointer (some ⟨pp, 0, none⟩), .pointer (some ⟨pb, 0, none⟩)] W fun e w' => e = .returned (.bool (freV P B i)) ∧ Below W.heap.size W w') := fun i W hi hW => free_any pl pe pp pb G1 G2 a n c f E P B W (h.keep hW) i hi
  have hn60 := hT.few
  clear h hT hE
  go_enter Tryd.func48, Tryd.ntmps48
  go_wp2_with fail
  go_loopw [8, 9, 12] (fun vb vo vi wr => ∃ k : Nat, vi = .int .i64 (k : Int) ∧ k ≤ n ∧ vb = .int .i64 (((Lin.ck (freV P B) (cstV f E) k).1 : Nat) : Int) ∧ vo = .bool (Lin.ck (freV P B) (cstV f E) k).2 ∧ Below w.heap.size w wr) (fun _ _ vi _ => n - (intOf vi).toNat)
  case atStart => exact ⟨0, rfl, Nat.zero_le _, rfl, rfl, Below.refl _ _⟩
  case round =>
    obtain ⟨k, rfl, hk, rfl, rfl, hb⟩ := hrel
    by_cases hlt : k < n
    · have e1 : (k : Int) < (n : Int) := by omega
      have e6 : IntKind.i64.wrap ((k : Int) + 1) = (k : Int) + 1 := by rw [IntKind.wrap_i64]; omega
      have HS : Hid (Lin.ck (freV P B) (cstV f E) (k + 1) = if freV P B k && (!(Lin.ck (freV P B) (cstV f E) k).2 || decide (cstV f E k ≤ cstV f E (Lin.ck (freV P B) (cstV f E) k).1)) then (k, true) else Lin.ck (freV P B) (cstV f E) k) := rfl
      have hbest : (Lin.ck (freV P B) (cstV f E) k).2 = true → (Lin.ck (freV P B) (cstV f E) k).1 < k := fun h => (Lin.ck_true h).1
      obtain ⟨⟨bs, ok⟩, hs⟩ : ∃ s, Lin.ck (freV P B) (cstV f E) k = s := ⟨_, rfl⟩
      rw [hs] at HS hbest ⊢
      simp only at HS hbest ⊢
      have C1 := hide (unhide HF k wr hlt hb)
      have HB := hide hb
      cases hf : freV P B k with
      | false =>
        rw [hf] at C1 HS
        have HS' : Hid (Lin.ck (freV P B) (cstV f E) (k + 1) = (bs, ok)) := by rw [unhide HS]; rfl
        clear hb hs hbest HS hf
        go_wp2_with fail
        refine (unhide C1).mono ?_
        rintro e w2 ⟨rfl, hb2⟩
        have HB2 := hide (below_step (unhide HB) hb2)
        clear hb2 C1
        go_wp2
        exact ⟨⟨k + 1, by go_num, hlt, by rw [unhide HS'], by rw [unhide HS'], unhide HB2⟩, by simp [intOf]; omega⟩
      | true =>
        rw [hf] at C1 HS
        cases ok with
        | false =>
          have HS' : Hid (Lin.ck (freV P B) (cstV f E) (k + 1) = (k, true)) := by rw [unhide HS]; rfl
          clear hb hs hbest HS hf
          go_wp2_with fail
          refine (unhide C1).mono ?_
          rintro e w2 ⟨rfl, hb2⟩
          have HB2 := hide (below_step (unhide HB) hb2)
          clear hb2 C1
          go_wp2
          exact ⟨⟨k + 1, by go_num, hlt, by rw [unhide HS'], by rw [unhide HS'], unhide HB2⟩, by simp [intOf]; omega⟩
        | true =>
          have hbk := hbest rfl
          have HBK := hide hbk
          have C2 : Hid (∀ W, Below w.heap.size w W → Calls Tryd.prog 46 #[.int .i64 (k : Int), .pointer (some ⟨pl, 0, none⟩), .pointer (some ⟨pe, 0, none⟩)] W fun e w' => e = .returned (.int .i64 (cstV f E k)) ∧ Below W.heap.size W w') := fun W hW => unhide HC k W hlt hW
          have C3 : Hid (∀ W, Below w.heap.size w W → Calls Tryd.prog 46 #[.int .i64 (bs : Int), .pointer (some ⟨pl, 0, none⟩), .pointer (some ⟨pe, 0, none⟩)] W fun e w' => e = .returned (.int .i64 (cstV f E bs)) ∧ Below W.heap.size W w') := fun W hW => unhide HC bs W (by omega) hW
          obtain ⟨x1, hx1⟩ : ∃ x, cstV f E k = x := ⟨_, rfl⟩
          obtain ⟨x2, hx2⟩ : ∃ x, cstV f E bs = x := ⟨_, rfl⟩
          rw [hx1] at C2 HS
          rw [hx2] at C3 HS
          by_cases hle : x1 ≤ x2
          · have HS' : Hid (Lin.ck (freV P B) (cstV f E) (k + 1) = (k, true)) := by rw [unhide HS, decide_eq_true hle]; rfl
            clear hb hs hbest HS hf hx1 hx2 hbk
            go_wp2_with fail
            refine (unhide C1).mono ?_
            rintro e w2 ⟨rfl, hb2⟩
            have HB2 := hide (below_step (unhide HB) hb2)
            have D2 := hide (unhide C2 w2 (unhide HB2))
            clear hb2 C1
            go_wp2_with fail
            refine (unhide D2).mono ?_
            rintro e w3 ⟨rfl, hb3⟩
            have HB3 := hide (below_step (unhide HB2) hb3)
            have D3 := hide (unhide C3 w3 (unhide HB3))
            clear hb3 D2
            go_wp2_with fail
            refine (unhide D3).mono ?_
            rintro e w4 ⟨rfl, hb4⟩
            have HB4 := hide (below_step (unhide HB3) hb4)
            clear hb4 D3
            go_wp2
            exact ⟨⟨k + 1, by go_num, hlt, by rw [unhide HS'], by rw [unhide HS'], unhide HB4⟩, by simp [intOf]; omega⟩
          · have HS' : Hid (Lin.ck (freV P B) (cstV f E) (k + 1) = (bs, true)) := by rw [unhide HS, decide_eq_false hle]; rfl
            clear hb hs hbest HS hf hx1 hx2 hbk
            go_wp2_with fail
            refine (unhide C1).mono ?_
            rintro e w2 ⟨rfl, hb2⟩
            have HB2 := hide (below_step (unhide HB) hb2)
            have D2 := hide (unhide C2 w2 (unhide HB2))
            clear hb2 C1
            go_wp2_with fail
            refine (unhide D2).mono ?_
            rintro e w3 ⟨rfl, hb3⟩
            have HB3 := hide (below_step (unhide HB2) hb3)
            have D3 := hide (unhide C3 w3 (unhide HB3))
            clear hb3 D2
            go_wp2_with fail
            refine (unhide D3).mono ?_
            rintro e w4 ⟨rfl, hb4⟩
            have HB4 := hide (below_step (unhide HB3) hb4)
            clear hb4 D3
            go_wp2
            exact ⟨⟨k + 1, by go_num, hlt, by rw [unhide HS'], by rw [unhide HS'], unhide HB4⟩, by simp [intOf]; omega⟩
    · obtain rfl : k = n := by omega
      have e1 : ¬ (k : Int) < (k : Int) := by omega
      obtain ⟨⟨bs, ok⟩, hs⟩ : ∃ s, Lin.ck (freV P B) (cstV f E) k = s := ⟨_, rfl⟩
      rw [hs]
      have HS := hide hs
      have HB := hide hb
      clear hb hs
      go_wp2
      go_ret2
      exact ⟨by rw [unhide HS]; rfl, unhide HB⟩
end Go.Proofs.YtmpigipeajdgcaaDoor
