/- Rows of fractions in memory; their sum. -/
import Derived.Test.YtdicbnchkfclaaaDoorW45
namespace Go.Proofs.YtdicbnchkfclaaaDoor
open Go.RowKit Go.Sort Go.Shelf

theorem RS.mono {q : Rat} {i j : Nat} (h : RS q i) (hij : i ≤ j) : RS q j := ⟨Int.lt_of_lt_of_le h.1 (Wd.pw_mono hij), Int.lt_of_lt_of_le h.2 (Wd.pw_mono hij)⟩

theorem mkRat_bd (z : Int) (d : Nat) (hd : d ≠ 0) : (mkRat z d).num.natAbs ≤ z.natAbs ∧ (mkRat z d).den ≤ d := by
  rw [Rat.num_mkRat, Rat.den_mkRat, if_neg hd, if_neg hd]
  refine ⟨?_, Nat.div_le_self _ _⟩
  rw [Int.natAbs_ediv_of_dvd (Int.ofNat_dvd_left.2 (Nat.gcd_dvd_right _ _)), Int.natAbs_natCast]
  exact Nat.div_le_self _ _

theorem prod_bd {x y : Nat} {i j : Nat} (hx : (x : Int) < Wd.pw i) (hy : (y : Int) < Wd.pw j) : ((x * y : Nat) : Int) < Wd.pw (i + j) := by
  rw [Int.natCast_mul]; exact mul_small (by omega) hx hy

theorem RS.add {a b : Rat} {i j : Nat} (ha : RS a i) (hb : RS b j) : RS (a + b) (i + j + 1) := by
  rw [Rat.add_def']
  have m := mkRat_bd (a.num * b.den + b.num * a.den) (a.den * b.den) (Nat.mul_ne_zero a.den_nz b.den_nz)
  have p1 := prod_bd ha.1 hb.2
  have p2 := prod_bd hb.1 ha.2
  rw [Nat.add_comm j i] at p2
  have p3 := prod_bd ha.2 hb.2
  have q : (a.num * b.den + b.num * a.den).natAbs ≤ a.num.natAbs * b.den + b.num.natAbs * a.den := by
    have := Int.natAbs_add_le (a.num * b.den) (b.num * a.den)
    rw [Int.natAbs_mul, Int.natAbs_mul, Int.natAbs_natCast, Int.natAbs_natCast] at this
    exact this
  have t := pw_two p1 p2
  refine ⟨?_, Int.lt_of_lt_of_le (Int.lt_of_le_of_lt (by omega) p3) (Wd.pw_mono (by omega))⟩
  omega
theorem RS.mul {a b : Rat} {i j : Nat} (ha : RS a i) (hb : RS b j) : RS (a * b) (i + j) := by
  rw [Rat.mul_def']
  have m := mkRat_bd (a.num * b.num) (a.den * b.den) (Nat.mul_ne_zero a.den_nz b.den_nz)
  have p1 := prod_bd ha.1 hb.1
  have p3 := prod_bd ha.2 hb.2
  rw [Int.natAbs_mul] at m
  exact ⟨by omega, by omega⟩
theorem RS.zero : RS 0 1 := ⟨by decide, by decide⟩

/-- A row of fractions: three cells each. -/
def LawIs (w : World) (v : Value) (qs : List Rat) : Prop := ∃ (a : Option Addr) (c : Nat), v = .slice a qs.length c ∧ qs.length ≤ c ∧ c ≤ 9223372036854775807 ∧
  (0 < qs.length → ∃ b o, a = some ⟨b, o, none⟩ ∧ b < w.heap.size ∧ ∀ j, j < qs.length → ∃ (s : Bool) (a1 a2 : Option Addr) (n1 c1 n2 c2 : Nat), w.cell? ⟨b, o + j * 3, none⟩ = some (.bool s) ∧ w.cell? ⟨b, o + j * 3 + 1, none⟩ = some (.slice a1 n1 c1) ∧ w.cell? ⟨b, o + j * 3 + 2, none⟩ = some (.slice a2 n2 c2) ∧
    RatIs w (.agg #[.bool s, .slice a1 n1 c1, .slice a2 n2 c2]) qs[j]!)

theorem LawIs.below {w w' : World} {v : Value} {qs : List Rat} (h : LawIs w v qs) (hb : Below w.heap.size w w') : LawIs w' v qs := by
  obtain ⟨a, c, e, h1, h2, h3⟩ := h
  refine ⟨a, c, e, h1, h2, fun hp => ?_⟩
  obtain ⟨b, o, ea, hlt, hc⟩ := h3 hp
  refine ⟨b, o, ea, Nat.lt_of_lt_of_le hlt hb.size, fun j hj => ?_⟩
  obtain ⟨s, a1, a2, n1, c1, n2, c2, k0, k1, k2, r⟩ := hc j hj
  refine ⟨s, a1, a2, n1, c1, n2, c2, ?_, ?_, ?_, r.below hb⟩
  · rw [hb.cell (p := ⟨b, o + j * 3, none⟩) hlt]; exact k0
  · rw [hb.cell (p := ⟨b, o + j * 3 + 1, none⟩) hlt]; exact k1
  · rw [hb.cell (p := ⟨b, o + j * 3 + 2, none⟩) hlt]; exact k2

/-- The sum of the first k. -/
def qsum (qs : List Rat) : Nat → Rat
  | 0 => 0
  | k + 1 => qsum qs k + qs[k]!
theorem qsum_RS {qs : List Rat} {J : Nat} (h : ∀ j, j < qs.length → RS qs[j]! J) (k : Nat) (hk : k ≤ qs.length) : RS (qsum qs k) (k * (J + 1) + 1) := by
  induction k with
  | zero => exact RS.zero.mono (by omega)
  | succ k ih =>
    have := (ih (by omega)).add (h k (by omega))
    refine RS.mono this ?_
    rw [Nat.succ_mul]
    omega

/-- A box of a fraction, written anew. -/
theorem box_set {w : World} {g : Nat} {x0 x1 x2 y0 y1 y2 : Value} {T : TypeId} (h : w.heap[g]? = some (.cells #[x0, x1, x2] T)) :
    (((w.setCell ⟨g, 0, none⟩ y0).setCell ⟨g, 1, none⟩ y1).setCell ⟨g, 2, none⟩ y2).heap[g]? = some (.cells #[y0, y1, y2] T) := by
  rw [setCell_eq, setCell_eq, setCell_eq]
  simp [mapBlock, Array.getElem?_modify, h, onCells]
end Go.Proofs.YtdicbnchkfclaaaDoor
/- The sum of a row of fractions. -/
namespace Go.Proofs.YtdicbnchkfclaaaDoor
open Go.RowKit Go.Sort Go.Shelf

/-- What the loop of a sum keeps: the result's box, the sum's box, behind what was there. -/
structure SumAt (w wr : World) (q : Rat) (s : Bool) (a1 a2 : Option Addr) (n1 c1 n2 c2 : Nat) : Prop where
  res : wr.heap[w.heap.size]? = some (.cells #[.bool false, .slice none 0 0, .slice none 0 0] 36)
  all : wr.heap[w.heap.size + 1]? = some (.cells #[.bool s, .slice a1 n1 c1, .slice a2 n2 c2] 36)
  rat : RatIs wr (.agg #[.bool s, .slice a1 n1 c1, .slice a2 n2 c2]) q
  bl : Below w.heap.size w wr

theorem SumAt.start (w : World) : SumAt w ((w.alloc (.cells #[.bool false, .slice none 0 0, .slice none 0 0] 36)).alloc (.cells #[.bool false, .slice none 0 0, .slice none 0 0] 36)) 0 false none none 0 0 0 0 := by
  refine ⟨?_, ?_, ?_, ?_⟩
  · show ((w.heap.push _).push _)[w.heap.size]? = _
    rw [Array.getElem?_push, if_neg (by simp), Array.getElem?_push, if_pos rfl]
  · show ((w.heap.push _).push _)[w.heap.size + 1]? = _
    rw [Array.getElem?_push, if_pos (by simp)]
  · exact ⟨.slice none 0 0, .slice none 0 0, rfl, natIs_zero _ none 0 (by decide), natIs_zero _ none 0 (by decide)⟩
  · exact ((Below.refl _ _).alloc (Nat.le_refl _) _).alloc (by simp) _

theorem SumAt.keep {w wr w' : World} {q : Rat} {s : Bool} {a1 a2 : Option Addr} {n1 c1 n2 c2 : Nat} (h : SumAt w wr q s a1 a2 n1 c1 n2 c2) (hb : Below wr.heap.size wr w') : SumAt w w' q s a1 a2 n1 c1 n2 c2 := by
  have l1 := (Array.getElem?_eq_some_iff.1 h.res).1
  have l2 := (Array.getElem?_eq_some_iff.1 h.all).1
  exact ⟨by rw [hb.block _ l1]; exact h.res, by rw [hb.block _ l2]; exact h.all, h.rat.below hb, below_step h.bl hb⟩

theorem SumAt.set {w wr : World} {q q' : Rat} {s s' : Bool} {a1 a2 b1 b2 : Option Addr} {n1 c1 n2 c2 m1 d1 m2 d2 : Nat} (h : SumAt w wr q s a1 a2 n1 c1 n2 c2) (hr : RatIs wr (.agg #[.bool s', .slice b1 m1 d1, .slice b2 m2 d2]) q') :
    SumAt w (((wr.setCell ⟨w.heap.size + 1, 0, none⟩ (.bool s')).setCell ⟨w.heap.size + 1, 1, none⟩ (.slice b1 m1 d1)).setCell ⟨w.heap.size + 1, 2, none⟩ (.slice b2 m2 d2)) q' s' b1 b2 m1 d1 m2 d2 := by
  have rb := rat_boxed (w0 := w) hr h.all h.bl (by omega) (.bool s') (.slice b1 m1 d1) (.slice b2 m2 d2)
  refine ⟨?_, box_set h.all, rb.1, rb.2⟩
  rw [Below.heap_setCell _ _ _ _ (by show w.heap.size ≠ w.heap.size + 1; omega), Below.heap_setCell _ _ _ _ (by show w.heap.size ≠ w.heap.size + 1; omega), Below.heap_setCell _ _ _ _ (by show w.heap.size ≠ w.heap.size + 1; omega)]
  exact h.res

set_option maxHeartbeats 4000000 in
set_option maxRecDepth 100000 in
theorem sumR_any (v : Value) (qs : List Rat) (J : Nat) (w : World) (h : LawIs w v qs) (hq : ∀ j, j < qs.length → RS qs[j]! J) (hJ : (qs.length * (J + 1) + 1 + J) + (qs.length * (J + 1) + 1 + J) + 1 ≤ KK) :
    Calls Tryd.prog 66 #[v] w fun e w' => ∃ v, e = .returned v ∧ RatIs w' v (qsum qs qs.length) ∧ Below w.heap.size w w' := by
  have HL := hide h
  obtain ⟨a, c, rfl, h1, h2, h3⟩ := h
  have H3 := hide h3
  have HQ := hide hq
  have HS0 := hide (SumAt.start w)
  obtain ⟨W, hW⟩ : ∃ W, (w.alloc (.cells #[.bool false, .slice none 0 0, .slice none 0 0] 36)).alloc (.cells #[.bool false, .slice none 0 0, .slice none 0 0] 36) = W := ⟨_, rfl⟩
  rw [hW] at HS0
  have HWE := hide hW
  clear h3 hq hW
  go_enter Tryd.func66, Tryd.ntmps66
  go_wp2_with fail
  rw [unhide HWE]
  go_loopw [8] (fun vi wr => ∃ (i : Nat) (s : Bool) (a1 a2 : Option Addr) (n1 c1 n2 c2 : Nat), vi = .int .i64 i ∧ i ≤ qs.length ∧ SumAt w wr (qsum qs i) s a1 a2 n1 c1 n2 c2) (fun vi _ => qs.length - (intOf vi).toNat)
  case atStart => exact ⟨0, _, _, _, _, _, _, _, rfl, Nat.zero_le _, unhide HS0⟩
  case round =>
    obtain ⟨i, s, a1, a2, n1, c1, n2, c2, rfl, hi, T⟩ := hrel
    have HT := hide T
    by_cases hlt : i < qs.length
    · obtain ⟨b, o, rfl, hblt, hcs⟩ := unhide H3 (by omega)
      obtain ⟨s', b1, b2, m1, d1, m2, d2, k0, k1, k2, r⟩ := hcs i hlt
      rw [← T.bl.cell (p := ⟨b, o + i * 3, none⟩) hblt] at k0
      rw [← T.bl.cell (p := ⟨b, o + i * 3 + 1, none⟩) hblt] at k1
      rw [← T.bl.cell (p := ⟨b, o + i * 3 + 2, none⟩) hblt] at k2
      have r' := r.below T.bl
      have hS1 := T.keep (alloc_below wr (.cells #[.bool s', .slice b1 m1 d1, .slice b2 m2 d2] 36))
      have hb1 : Below wr.heap.size wr (wr.alloc (.cells #[.bool s', .slice b1 m1 d1, .slice b2 m2 d2] 36)) := alloc_below _ _
      have ⟨g0, g1, g2, f0, f1, f2⟩ := box_cell hS1.all
      have HAD := hide (addR_any _ _ (qsum qs i) qs[i]! (wr.alloc (.cells #[.bool s', .slice b1 m1 d1, .slice b2 m2 d2] 36)) hS1.rat (r'.below hb1) (qs.length * (J + 1) + 1 + J) ((qsum_RS (unhide HQ) i hi).mono (by have := Nat.mul_le_mul_right (J + 1) hi; omega)) ((unhide HQ i hlt).mono (by omega)) hJ)
      have hi0 : (0 : Int) ≤ (i : Int) := by omega
      have hi1 : (i : Int) < (qs.length : Int) := by omega
      have HS1 := hide hS1
      clear T r r' hcs hS1 hb1 H3 HQ
      go_wp2_with fail
      refine (unhide HAD).mono ?_
      rintro e w5 ⟨v5, rfl, hv5, hb5⟩
      have T5 := (unhide HS1).keep hb5
      have hv5' := hv5
      obtain ⟨ov, un, rfl, ho, hu⟩ := hv5'
      obtain ⟨y1, y2, y3, rfl, _, _⟩ := ho
      obtain ⟨y4, y5, y6, rfl, _, _⟩ := hu
      obtain ⟨s5, hs5⟩ : ∃ s, decide ((qsum qs i + qs[i]!).num < 0) = s := ⟨_, rfl⟩
      rw [hs5] at hv5 ⊢
      have ⟨k0', k1', k2', l0, l1, l2⟩ := box_cell T5.all
      have FIN := hide (T5.set hv5)
      clear T5 hv5 hb5 HAD HS1 g0 g1 g2 f0 f1 f2 k0 k1 k2 hs5
      go_wp2_with fail
      exact ⟨⟨i + 1, _, _, _, _, _, _, _, by go_num, hlt, unhide FIN⟩, by simp [intOf]; omega⟩
    · obtain rfl : i = qs.length := by omega
      have ⟨g0, g1, g2, f0, f1, f2⟩ := box_cell T.all
      have ⟨h0, h1', h2', l0, l1, l2⟩ := box_cell T.res
      have rb := rat_boxed (w0 := w) T.rat T.res T.bl (Nat.le_refl _) (.bool s) (.slice a1 n1 c1) (.slice a2 n2 c2)
      have RB := hide rb
      clear T HT rb H3 HQ
      go_wp2
      (try simp only [Exit.inBlock, Exit.then])
      have rb := unhide RB
      exact bodyPost_ret (v := .agg #[.bool s, .slice a1 n1 c1, .slice a2 n2 c2]) (by simp [results, Tryd.results66, go_sem, h0, h1', h2']) rfl ⟨_, rfl, rb.1, rb.2⟩
end Go.Proofs.YtdicbnchkfclaaaDoor
