/- Fractions divided: numbers of any length. -/
import Derived.Test.YtcelbgleajpenaaGreatDoorA12
import Derived.Test.YtcelbgleajpenaaGreatDoorA14
import Derived.Test.YtcelbgleajpenaaGreatDoorA9
namespace Go.Proofs.YtcelbgleajpenaaGreatDoor
open Go.RowKit Go.Sort Go.Shelf

theorem inv_math (q : Rat) (h : q.num ≠ 0) : mkRat (sn (decide (q.num < 0)) (q.den : Int)) q.num.natAbs = q⁻¹ := by
 have := of_math (x := (q.den : Int)) (y := q.num) h
 rw [Rat.inv_def, ← this]
 congr 2
 have : decide ((q.den : Int) < 0) = false := decide_eq_false (by omega)
 rw [this]
 cases decide (q.num < 0) <;> rfl

theorem inv_red (q : Rat) : ((q.den : Int)).natAbs.gcd q.num.natAbs = 1 := by
 rw [Int.natAbs_natCast, Nat.gcd_comm]; exact q.reduced

theorem RS.inv {q : Rat} {j : Nat} (h : RS q j) (hz : q.num ≠ 0) : RS q⁻¹ j := by
 have p := rat_parts (sn (decide (q.num < 0)) (q.den : Int)) q.num.natAbs (by omega) (by rw [sn_abs]; exact inv_red q)
 rw [inv_math q hz] at p
 refine ⟨?_, ?_⟩
 ·rw [p.1, sn_abs, Int.natAbs_natCast]; exact h.2
 ·rw [p.2]; exact h.1

set_option maxHeartbeats 4000000 in
set_option maxRecDepth 100000 in
theorem divR_any (va vb : Value) (qa qb : Rat) (w : World) (ha : RatIs w va qa) (hb : RatIs w vb qb) (j : Nat) (hqa : RS qa j) (hqb : RS qb j) (hj : j + j + 1 ≤ KK) (hz : qb.num ≠ 0) :
  Calls Tryz.prog 113 #[va, vb] w fun e w' => ∃ v, e = .returned (.tuple #[v, .nilIface]) ∧ RatIs w' v (qa / qb) ∧ Below w.heap.size w w' := by
 have HA := hide ha
 have HB := hide hb
 have HRI := hide (inv_red qb)
 have HIM := hide (inv_math qb hz)
 have hnz : qb.num.natAbs ≠ 0 := by omega
 have hsz : (qb.num.sign == 0) = false := by rw [beq_eq_false_iff_ne]; intro h; exact hz (Int.sign_eq_zero_iff_zero.1 h)
 obtain ⟨ov, un, rfl, h1, h2⟩ := ha
 obtain ⟨ov', un', rfl, h1', h2'⟩ := hb
 have HNb := hide h1'
 obtain ⟨a, n, c, rfl, _, _⟩ := h1
 obtain ⟨a2, n2, c2, rfl, _, _⟩ := h2
 obtain ⟨b, m, d, rfl, _, _⟩ := h1'
 obtain ⟨b2, m2, d2, rfl, _, _⟩ := h2'
 obtain ⟨sa, hsa⟩ : ∃ s, decide (qa.num < 0) = s := ⟨_, rfl⟩
 obtain ⟨sb, hsb⟩ : ∃ s, decide (qb.num < 0) = s := ⟨_, rfl⟩
 rw [hsa] at HA
 rw [hsb] at HB HIM
 rw [hsa, hsb]
 obtain ⟨W, hW⟩ : ∃ W, ((w.alloc (.cells #[.bool sa, .slice a n c, .slice a2 n2 c2] 37)).alloc (.cells #[.bool sb, .slice b m d, .slice b2 m2 d2] 37)).alloc (.cells #[.bool false, .slice none 0 0, .slice none 0 0] 37) = W := ⟨_, rfl⟩
 have hbW : Below w.heap.size w W := by rw [← hW]; exact (((Below.refl _ _).alloc (Nat.le_refl _) _).alloc (by simp) _).alloc (by simp; omega) _
 have S0 : ∀ w', Below W.heap.size W w' → (w'.cell? ⟨w.heap.size, 0, none⟩ = some (.bool sa) ∧ w'.cell? ⟨w.heap.size, 1, none⟩ = some (.slice a n c) ∧ w'.cell? ⟨w.heap.size, 2, none⟩ = some (.slice a2 n2 c2) ∧
  w'.cell? ⟨w.heap.size + 1, 0, none⟩ = some (.bool sb) ∧ w'.cell? ⟨w.heap.size + 1, 1, none⟩ = some (.slice b m d) ∧ w'.cell? ⟨w.heap.size + 1, 2, none⟩ = some (.slice b2 m2 d2)) ∧
  w'.heap[w.heap.size + 2]? = some (.cells #[.bool false, .slice none 0 0, .slice none 0 0] 37) ∧ w.heap.size + 2 < w'.heap.size := fun w' h => by
  rw [← hW] at h
  exact three_boxes h
 have CB : ∀ w1, Below W.heap.size W w1 → Calls Tryz.prog 103 #[.agg #[.bool sb, .slice b m d, .slice b2 m2 d2]] w1 fun e w' => e = .returned (.int .i64 qb.num.sign) ∧ Below W.heap.size W w' := fun w1 h1 =>
  (sign_any _ qb w1 (((unhide HB).below hbW).below h1)).mono (by rintro e w' ⟨rfl, h⟩; exact ⟨rfl, below_step h1 h⟩)
 have LB : ∀ w1, Below W.heap.size W w1 → Calls Tryz.prog 105 #[.agg #[.bool sb, .slice b m d, .slice b2 m2 d2]] w1 fun e w' => ∃ v, e = .returned v ∧ NatIs w' v qb.den ∧ Below w1.heap.size w1 w' ∧ Below W.heap.size W w' := fun w1 h1 =>
  (lower_any _ qb w1 (((unhide HB).below hbW).below h1)).mono (by rintro e w' ⟨v, rfl, hv, h⟩; exact ⟨v, rfl, hv, h, below_step h1 h⟩)
 have ML : ∀ w1 v, Below W.heap.size W w1 → RatIs w1 v qb⁻¹ → Calls Tryz.prog 65 #[.agg #[.bool sa, .slice a n c, .slice a2 n2 c2], v] w1 fun e w' => ∃ v, e = .returned v ∧ RatIs w' v (qa / qb) ∧ Below W.heap.size W w' := fun w1 v h1 hv => by
  rw [Rat.div_def]
  exact (mulR_any _ _ qa qb⁻¹ w1 (((unhide HA).below hbW).below h1) hv j hqa (hqb.inv hz) hj).mono (by rintro e w' ⟨v, rfl, hv, h⟩; exact ⟨v, rfl, hv, below_step h1 h⟩)
 have HS0 := hide S0
 have HCB := hide CB
 have HLB := hide LB
 have HML := hide ML
 have HWE := hide hW
 have HBW := hide hbW
 have hR := hide (Below.refl W.heap.size W)
 have bd := sign_bd qb.num
 generalize qb.num.sign = x at *
 obtain ⟨bda, bdb⟩ := bd
 obtain ⟨q', hq'⟩ : ∃ q, qa / qb = q := ⟨_, rfl⟩
 rw [hq'] at HML ⊢
 clear hW hbW S0 CB LB ML hsa hsb hz hq' hqa hqb hj
 go_enter Tryz.func113, Tryz.ntmps113
 go_wp2_with fail
 rw [unhide HWE]
 refine (unhide HCB _ (unhide hR)).mono ?_
 rintro e w1 ⟨rfl, hb1⟩
 go_wp2_with fail
 go_region_held3 (fun w' => w'.cell? ⟨w.heap.size, 0, none⟩ = some (.bool sa) ∧ w'.cell? ⟨w.heap.size, 1, none⟩ = some (.slice a n c) ∧ w'.cell? ⟨w.heap.size, 2, none⟩ = some (.slice a2 n2 c2) ∧
  w'.cell? ⟨w.heap.size + 1, 0, none⟩ = some (.bool sb) ∧ w'.cell? ⟨w.heap.size + 1, 1, none⟩ = some (.slice b m d) ∧ w'.cell? ⟨w.heap.size + 1, 2, none⟩ = some (.slice b2 m2 d2)) (first | exact (unhide HS0 _ (by assumption)).1 | exact (unhide HS0 _ (Below.drew (by assumption))).1 | exact six_store (unhide HS0 _ (by assumption)).1 _ _ _)
  (first | (go_at_call 105; refine (unhide HLB _ ?_).mono ?_; (first | assumption | exact Below.drew (by assumption)); rintro e w3 ⟨v3, rfl, hv3, hr3, hb3⟩) | (go_at_call 95; refine (settled_any sb _ _ _ _ _ hv3 ((unhide HNb).below (below_step (unhide HBW) hb3)) hnz (unhide HRI)).mono ?_; rintro e w4 ⟨v4, rfl, hv4, hr4⟩; have hb4 := below_step hb3 hr4; rw [unhide HIM] at hv4) | (go_at_call 65; refine (unhide HML _ _ hb4 hv4).mono ?_; rintro e w18 ⟨v18, rfl, hv18, hb18⟩; have HV18 := hide hv18; obtain ⟨ov8, un8, rfl, hov8, hun8⟩ := hv18; obtain ⟨a18, n18, c18, rfl, _, _⟩ := hov8; obtain ⟨a19, n19, c19, rfl, _, _⟩ := hun8; have ⟨_, hbx, hsz⟩ := unhide HS0 _ hb18; have ⟨g0, g1, g2, f0, f1, f2⟩ := box_cell hbx; have HBX := hide hbx; clear hbx))
 go_wp2
 have ⟨r1, r2⟩ := rat_boxed (w0 := w) (unhide HV18) (unhide HBX) (below_step (unhide HBW) hb18) (by omega) (Value.bool (decide (q'.num < 0))) (Value.slice a18 n18 c18) (Value.slice a19 n19 c19)
 exact bodyPost_ret (v := .tuple #[.agg #[.bool (decide (q'.num < 0)), .slice a18 n18 c18, .slice a19 n19 c19], .nilIface]) (by simp [results, Tryz.results113, go_sem, g0, g1, g2]) rfl ⟨_, rfl, r1, r2⟩
end Go.Proofs.YtcelbgleajpenaaGreatDoor
/- Rows of fractions in memory; their sum. -/
namespace Go.Proofs.YtcelbgleajpenaaGreatDoor
open Go.RowKit Go.Sort Go.Shelf

theorem RS.mono {q : Rat} {i j : Nat} (h : RS q i) (hij : i ≤ j) : RS q j := ⟨Int.lt_of_lt_of_le h.1 (Wd.pw_mono hij), Int.lt_of_lt_of_le h.2 (Wd.pw_mono hij)⟩

theorem mkRat_bd (z : Int) (d : Nat) (hd : d ≠ 0) : (mkRat z d).num.natAbs ≤ z.natAbs ∧ (mkRat z d).den ≤ d := by
 rw [Rat.num_mkRat, Rat.den_mkRat, if_neg hd, if_neg hd]
 refine ⟨?_, Nat.div_le_self _ _⟩
 rw [Int.natAbs_ediv_of_dvd (Int.ofNat_dvd_left.2 (Nat.gcd_dvd_right _ _)), Int.natAbs_natCast]
 exact Nat.div_le_self _ _

theorem prod_bd {x y : Nat} {i j : Nat} (hx : (x : Int) < Wd.pw i) (hy : (y : Int) < Wd.pw j) : ((x * y : Nat) : Int) < Wd.pw (i + j) := by
 rw [Int.natCast_mul]; exact mul_small (by omega) hx hy

theorem RS.add {a b : Rat} {i j : Nat} (ha : RS a i) (hb : RS b j) : RS (a + b) (i + j + 1) := by
 rw [Rat.add_def']
 have m := mkRat_bd (a.num * b.den + b.num * a.den) (a.den * b.den) (Nat.mul_ne_zero a.den_nz b.den_nz)
 have p1 := prod_bd ha.1 hb.2
 have p2 := prod_bd hb.1 ha.2
 rw [Nat.add_comm j i] at p2
 have p3 := prod_bd ha.2 hb.2
 have q : (a.num * b.den + b.num * a.den).natAbs ≤ a.num.natAbs * b.den + b.num.natAbs * a.den := by
  have := Int.natAbs_add_le (a.num * b.den) (b.num * a.den)
  rw [Int.natAbs_mul, Int.natAbs_mul, Int.natAbs_natCast, Int.natAbs_natCast] at this
  exact this
 have t := pw_two p1 p2
 refine ⟨?_, Int.lt_of_lt_of_le (Int.lt_of_le_of_lt (by omega) p3) (Wd.pw_mono (by omega))⟩
 omega
theorem RS.mul {a b : Rat} {i j : Nat} (ha : RS a i) (hb : RS b j) : RS (a * b) (i + j) := by
 rw [Rat.mul_def']
 have m := mkRat_bd (a.num * b.num) (a.den * b.den) (Nat.mul_ne_zero a.den_nz b.den_nz)
 have p1 := prod_bd ha.1 hb.1
 have p3 := prod_bd ha.2 hb.2
 rw [Int.natAbs_mul] at m
 exact ⟨by omega, by omega⟩
theorem RS.zero : RS 0 1 := ⟨by decide, by decide⟩

def LawIs (w : World) (v : Value) (qs : List Rat) : Prop := ∃ (a : Option Addr) (c : Nat), v = .slice a qs.length c ∧ qs.length ≤ c ∧ c ≤ 9223372036854775807 ∧
 (0 < qs.length → ∃ b o, a = some ⟨b, o, none⟩ ∧ b < w.heap.size ∧ ∀ j, j < qs.length → ∃ (s : Bool) (a1 a2 : Option Addr) (n1 c1 n2 c2 : Nat), w.cell? ⟨b, o + j * 3, none⟩ = some (.bool s) ∧ w.cell? ⟨b, o + j * 3 + 1, none⟩ = some (.slice a1 n1 c1) ∧ w.cell? ⟨b, o + j * 3 + 2, none⟩ = some (.slice a2 n2 c2) ∧
  RatIs w (.agg #[.bool s, .slice a1 n1 c1, .slice a2 n2 c2]) qs[j]!)

theorem LawIs.below {w w' : World} {v : Value} {qs : List Rat} (h : LawIs w v qs) (hb : Below w.heap.size w w') : LawIs w' v qs := by
 obtain ⟨a, c, e, h1, h2, h3⟩ := h
 refine ⟨a, c, e, h1, h2, fun hp => ?_⟩
 obtain ⟨b, o, ea, hlt, hc⟩ := h3 hp
 refine ⟨b, o, ea, Nat.lt_of_lt_of_le hlt hb.size, fun j hj => ?_⟩
 obtain ⟨s, a1, a2, n1, c1, n2, c2, k0, k1, k2, r⟩ := hc j hj
 refine ⟨s, a1, a2, n1, c1, n2, c2, ?_, ?_, ?_, r.below hb⟩
 ·rw [hb.cell (p := ⟨b, o + j * 3, none⟩) hlt]; exact k0
 ·rw [hb.cell (p := ⟨b, o + j * 3 + 1, none⟩) hlt]; exact k1
 ·rw [hb.cell (p := ⟨b, o + j * 3 + 2, none⟩) hlt]; exact k2

def qsum (qs : List Rat) : Nat → Rat
 | 0 => 0
 | k + 1 => qsum qs k + qs[k]!
theorem qsum_RS {qs : List Rat} {J : Nat} (h : ∀ j, j < qs.length → RS qs[j]! J) (k : Nat) (hk : k ≤ qs.length) : RS (qsum qs k) (k * (J + 1) + 1) := by
 induction k with
 | zero => exact RS.zero.mono (by omega)
 | succ k ih =>
  have := (ih (by omega)).add (h k (by omega))
  refine RS.mono this ?_
  rw [Nat.succ_mul]
  omega

theorem box_set {w : World} {g : Nat} {x0 x1 x2 y0 y1 y2 : Value} {T : TypeId} (h : w.heap[g]? = some (.cells #[x0, x1, x2] T)) :
  (((w.setCell ⟨g, 0, none⟩ y0).setCell ⟨g, 1, none⟩ y1).setCell ⟨g, 2, none⟩ y2).heap[g]? = some (.cells #[y0, y1, y2] T) := by
 rw [setCell_eq, setCell_eq, setCell_eq]
 simp [mapBlock, Array.getElem?_modify, h, onCells]
end Go.Proofs.YtcelbgleajpenaaGreatDoor
/- The sum of a row of fractions. -/
namespace Go.Proofs.YtcelbgleajpenaaGreatDoor
open Go.RowKit Go.Sort Go.Shelf

structure SumAt (w wr : World) (q : Rat) (s : Bool) (a1 a2 : Option Addr) (n1 c1 n2 c2 : Nat) : Prop where
 res : wr.heap[w.heap.size]? = some (.cells #[.bool false, .slice none 0 0, .slice none 0 0] 37)
 all : wr.heap[w.heap.size + 1]? = some (.cells #[.bool s, .slice a1 n1 c1, .slice a2 n2 c2] 37)
 rat : RatIs wr (.agg #[.bool s, .slice a1 n1 c1, .slice a2 n2 c2]) q
 bl : Below w.heap.size w wr

theorem SumAt.start (w : World) : SumAt w ((w.alloc (.cells #[.bool false, .slice none 0 0, .slice none 0 0] 37)).alloc (.cells #[.bool false, .slice none 0 0, .slice none 0 0] 37)) 0 false none none 0 0 0 0 := by
 refine ⟨?_, ?_, ?_, ?_⟩
 ·show ((w.heap.push _).push _)[w.heap.size]? = _
  rw [Array.getElem?_push, if_neg (by simp), Array.getElem?_push, if_pos rfl]
 ·show ((w.heap.push _).push _)[w.heap.size + 1]? = _
  rw [Array.getElem?_push, if_pos (by simp)]
 ·exact ⟨.slice none 0 0, .slice none 0 0, rfl, natIs_zero _ none 0 (by decide), natIs_zero _ none 0 (by decide)⟩
 ·exact ((Below.refl _ _).alloc (Nat.le_refl _) _).alloc (by simp) _

theorem SumAt.keep {w wr w' : World} {q : Rat} {s : Bool} {a1 a2 : Option Addr} {n1 c1 n2 c2 : Nat} (h : SumAt w wr q s a1 a2 n1 c1 n2 c2) (hb : Below wr.heap.size wr w') : SumAt w w' q s a1 a2 n1 c1 n2 c2 := by
 have l1 := (Array.getElem?_eq_some_iff.1 h.res).1
 have l2 := (Array.getElem?_eq_some_iff.1 h.all).1
 exact ⟨by rw [hb.block _ l1]; exact h.res, by rw [hb.block _ l2]; exact h.all, h.rat.below hb, below_step h.bl hb⟩

theorem SumAt.set {w wr : World} {q q' : Rat} {s s' : Bool} {a1 a2 b1 b2 : Option Addr} {n1 c1 n2 c2 m1 d1 m2 d2 : Nat} (h : SumAt w wr q s a1 a2 n1 c1 n2 c2) (hr : RatIs wr (.agg #[.bool s', .slice b1 m1 d1, .slice b2 m2 d2]) q') :
  SumAt w (((wr.setCell ⟨w.heap.size + 1, 0, none⟩ (.bool s')).setCell ⟨w.heap.size + 1, 1, none⟩ (.slice b1 m1 d1)).setCell ⟨w.heap.size + 1, 2, none⟩ (.slice b2 m2 d2)) q' s' b1 b2 m1 d1 m2 d2 := by
 have rb := rat_boxed (w0 := w) hr h.all h.bl (by omega) (.bool s') (.slice b1 m1 d1) (.slice b2 m2 d2)
 refine ⟨?_, box_set h.all, rb.1, rb.2⟩
 rw [Below.heap_setCell _ _ _ _ (by show w.heap.size ≠ w.heap.size + 1; omega), Below.heap_setCell _ _ _ _ (by show w.heap.size ≠ w.heap.size + 1; omega), Below.heap_setCell _ _ _ _ (by show w.heap.size ≠ w.heap.size + 1; omega)]
 exact h.res

set_option maxHeartbeats 4000000 in
set_option maxRecDepth 100000 in
theorem sumR_any (v : Value) (qs : List Rat) (J : Nat) (w : World) (h : LawIs w v qs) (hq : ∀ j, j < qs.length → RS qs[j]! J) (hJ : (qs.length * (J + 1) + 1 + J) + (qs.length * (J + 1) + 1 + J) + 1 ≤ KK) :
  Calls Tryz.prog 79 #[v] w fun e w' => ∃ v, e = .returned v ∧ RatIs w' v (qsum qs qs.length) ∧ Below w.heap.size w w' := by
 have HL := hide h
 obtain ⟨a, c, rfl, h1, h2, h3⟩ := h
 have H3 := hide h3
 have HQ := hide hq
 have HS0 := hide (SumAt.start w)
 obtain ⟨W, hW⟩ : ∃ W, (w.alloc (.cells #[.bool false, .slice none 0 0, .slice none 0 0] 37)).alloc (.cells #[.bool false, .slice none 0 0, .slice none 0 0] 37) = W := ⟨_, rfl⟩
 rw [hW] at HS0
 have HWE := hide hW
 clear h3 hq hW
 go_enter Tryz.func79, Tryz.ntmps79
 go_wp2_with fail
 rw [unhide HWE]
 go_loopw [8] (fun vi wr => ∃ (i : Nat) (s : Bool) (a1 a2 : Option Addr) (n1 c1 n2 c2 : Nat), vi = .int .i64 i ∧ i ≤ qs.length ∧ SumAt w wr (qsum qs i) s a1 a2 n1 c1 n2 c2) (fun vi _ => qs.length - (intOf vi).toNat)
 case atStart => exact ⟨0, _, _, _, _, _, _, _, rfl, Nat.zero_le _, unhide HS0⟩
 case round =>
  obtain ⟨i, s, a1, a2, n1, c1, n2, c2, rfl, hi, T⟩ := hrel
  have HT := hide T
  by_cases hlt : i < qs.length
  ·obtain ⟨b, o, rfl, hblt, hcs⟩ := unhide H3 (by omega)
   obtain ⟨s', b1, b2, m1, d1, m2, d2, k0, k1, k2, r⟩ := hcs i hlt
   rw [← T.bl.cell (p := ⟨b, o + i * 3, none⟩) hblt] at k0
   rw [← T.bl.cell (p := ⟨b, o + i * 3 + 1, none⟩) hblt] at k1
   rw [← T.bl.cell (p := ⟨b, o + i * 3 + 2, none⟩) hblt] at k2
   have r' := r.below T.bl
   have hS1 := T.keep (alloc_below wr (.cells #[.bool s', .slice b1 m1 d1, .slice b2 m2 d2] 37))
   have hb1 : Below wr.heap.size wr (wr.alloc (.cells #[.bool s', .slice b1 m1 d1, .slice b2 m2 d2] 37)) := alloc_below _ _
   have ⟨g0, g1, g2, f0, f1, f2⟩ := box_cell hS1.all
   have HAD := hide (addR_any _ _ (qsum qs i) qs[i]! (wr.alloc (.cells #[.bool s', .slice b1 m1 d1, .slice b2 m2 d2] 37)) hS1.rat (r'.below hb1) (qs.length * (J + 1) + 1 + J) ((qsum_RS (unhide HQ) i hi).mono (by have := Nat.mul_le_mul_right (J + 1) hi; omega)) ((unhide HQ i hlt).mono (by omega)) hJ)
   have hi0 : (0 : Int) ≤ (i : Int) := by omega
   have hi1 : (i : Int) < (qs.length : Int) := by omega
   have HS1 := hide hS1
   clear T r r' hcs hS1 hb1 H3 HQ
   go_wp2_with fail
   refine (unhide HAD).mono ?_
   rintro e w5 ⟨v5, rfl, hv5, hb5⟩
   have T5 := (unhide HS1).keep hb5
   have hv5' := hv5
   obtain ⟨ov, un, rfl, ho, hu⟩ := hv5'
   obtain ⟨y1, y2, y3, rfl, _, _⟩ := ho
   obtain ⟨y4, y5, y6, rfl, _, _⟩ := hu
   obtain ⟨s5, hs5⟩ : ∃ s, decide ((qsum qs i + qs[i]!).num < 0) = s := ⟨_, rfl⟩
   rw [hs5] at hv5 ⊢
   have ⟨k0', k1', k2', l0, l1, l2⟩ := box_cell T5.all
   have FIN := hide (T5.set hv5)
   clear T5 hv5 hb5 HAD HS1 g0 g1 g2 f0 f1 f2 k0 k1 k2 hs5
   go_wp2_with fail
   exact ⟨⟨i + 1, _, _, _, _, _, _, _, by go_num, hlt, unhide FIN⟩, by simp [intOf]; omega⟩
  ·obtain rfl : i = qs.length := by omega
   have ⟨g0, g1, g2, f0, f1, f2⟩ := box_cell T.all
   have ⟨h0, h1', h2', l0, l1, l2⟩ := box_cell T.res
   have rb := rat_boxed (w0 := w) T.rat T.res T.bl (Nat.le_refl _) (.bool s) (.slice a1 n1 c1) (.slice a2 n2 c2)
   have RB := hide rb
   clear T HT rb H3 HQ
   go_wp2
   (try simp only [Exit.inBlock, Exit.then])
   have rb := unhide RB
   exact bodyPost_ret (v := .agg #[.bool s, .slice a1 n1 c1, .slice a2 n2 c2]) (by simp [results, Tryz.results79, go_sem, h0, h1', h2']) rfl ⟨_, rfl, rb.1, rb.2⟩
end Go.Proofs.YtcelbgleajpenaaGreatDoor
/- Whether a row of fractions may be a law. -/
namespace Go.Proofs.YtcelbgleajpenaaGreatDoor
open Go.RowKit Go.Sort Go.Shelf

def chk (qs : List Rat) : Int :=
 if qs.length < 1 ∨ 101 < qs.length then 4 else if ∃ j, j < qs.length ∧ qs[j]!.num < 0 then 1 else if qsum qs qs.length = 1 then 0 else 10
def errV (k : Int) : Value := if k = 0 then .nilIface else .iface 27 (.int .i64 k)

theorem sg_zero {x y : Int} : Wd.sg x y = 0 ↔ x = y := by
 unfold Wd.sg
 split
 ·constructor
  ·intro h; omega
  ·intro h; omega
 ·split
  ·simp [*]
  ·constructor
   ·intro h; omega
   ·intro h; omega

theorem sg_range (x y : Int) : -1 ≤ Wd.sg x y ∧ Wd.sg x y ≤ 1 := by
 unfold Wd.sg; split
 ·decide
 ·split <;> decide

set_option maxHeartbeats 4000000 in
set_option maxRecDepth 100000 in
theorem check_any (v : Value) (qs : List Rat) (J : Nat) (w : World) (h : LawIs w v qs) (hq : ∀ j, j < qs.length → RS qs[j]! J) (hJ : (qs.length * (J + 1) + 1 + J) + (qs.length * (J + 1) + 1 + J) + 1 ≤ KK) :
  Calls Tryz.prog 111 #[v] w fun e w' => e = .returned (errV (chk qs)) ∧ Below w.heap.size w w' := by
 have HL := hide h
 have HQ := hide hq
 have hh := h
 obtain ⟨a, c, rfl, h1, h2, h3⟩ := hh
 have H3 := hide h3
 clear h3 h hq
 by_cases hlen : qs.length < 1 ∨ 101 < qs.length
 ·have hc : chk qs = 4 := by unfold chk; rw [if_pos hlen]
  rw [hc]
  clear hc H3 HL HQ hJ
  by_cases hz : qs.length < 1
  ·have d1 : decide ((qs.length : Int) < 1) = true := decide_eq_true (by omega)
   go_enter Tryz.func111, Tryz.ntmps111
   go_wp2
   go_ret
   exact ⟨rfl, Below.refl _ _⟩
  ·have d1 : decide ((qs.length : Int) < 1) = false := decide_eq_false (by omega)
   have d2 : decide ((101 : Int) < (qs.length : Int)) = true := decide_eq_true (by omega)
   go_enter Tryz.func111, Tryz.ntmps111
   go_wp2
   go_ret
   exact ⟨rfl, Below.refl _ _⟩
 ·have d1 : decide ((qs.length : Int) < 1) = false := decide_eq_false (by omega)
  have d2 : decide ((101 : Int) < (qs.length : Int)) = false := decide_eq_false (by omega)
  have HC : Hid (chk qs = if ∃ j, j < qs.length ∧ qs[j]!.num < 0 then 1 else if qsum qs qs.length = 1 then 0 else 10) := by show chk qs = _; unfold chk; rw [if_neg hlen]
  go_enter Tryz.func111, Tryz.ntmps111
  go_wp2_with fail
  go_loopw [16] (fun vi wr => ∃ (i : Nat), vi = .int .i64 i ∧ i ≤ qs.length ∧ (∀ j, j < i → 0 ≤ qs[j]!.num) ∧ Below w.heap.size w wr) (fun vi _ => qs.length - (intOf vi).toNat)
  case atStart => exact ⟨0, rfl, Nat.zero_le _, fun j hj => absurd hj (Nat.not_lt_zero _), Below.refl _ _⟩
  case round =>
   obtain ⟨i, rfl, hi, hpos, bl⟩ := hrel
   have HP := hide hpos
   have HBL := hide bl
   by_cases hlt : i < qs.length
   ·obtain ⟨b, o, rfl, hblt, hcs⟩ := unhide H3 (by omega)
    obtain ⟨s', b1, b2, m1, e1, m2, e2, k0, k1, k2, r⟩ := hcs i hlt
    rw [← bl.cell (p := ⟨b, o + i * 3, none⟩) hblt] at k0
    rw [← bl.cell (p := ⟨b, o + i * 3 + 1, none⟩) hblt] at k1
    rw [← bl.cell (p := ⟨b, o + i * 3 + 2, none⟩) hblt] at k2
    have hb1 : Below wr.heap.size wr (wr.alloc (.cells #[.bool s', .slice b1 m1 e1, .slice b2 m2 e2] 37)) := alloc_below _ _
    have HSG := hide (sign_any _ qs[i]! (wr.alloc (.cells #[.bool s', .slice b1 m1 e1, .slice b2 m2 e2] 37)) ((r.below bl).below hb1))
    have hi0 : (0 : Int) ≤ (i : Int) := by omega
    have hi1 : (i : Int) < (qs.length : Int) := by omega
    have HB1 := hide (below_step bl hb1)
    obtain ⟨q, hqq⟩ : ∃ q, qs[i]! = q := ⟨_, rfl⟩
    rw [hqq] at HSG
    have HQQ := hide hqq
    have bd := sign_bd q.num
    obtain ⟨bda, bdb⟩ := bd
    by_cases hneg : q.num < 0
    ·have hsn : q.num.sign = -1 := Int.sign_eq_neg_one_of_neg hneg
     rw [hsn] at HSG
     have hck : chk qs = 1 := by rw [unhide HC, if_pos ⟨i, hlt, by rw [hqq]; exact hneg⟩]
     have HCK := hide hck
     clear hpos r hcs hb1 bl H3 HQ HL hqq hck hsn bda bdb hJ HC
     go_wp2_with fail
     refine (unhide HSG).mono ?_
     rintro e w5 ⟨rfl, hb5⟩
     go_wp2
     go_ret
     exact ⟨by rw [unhide HCK]; rfl, below_step (unhide HB1) hb5⟩
    ·have hsn : 0 ≤ q.num.sign := by
      rcases Int.lt_trichotomy q.num 0 with h | h | h
      ·omega
      ·rw [h]; decide
      ·rw [Int.sign_eq_one_of_pos h]; decide
     generalize q.num.sign = x at *
     have hd3 : decide (x < 0) = false := decide_eq_false (by omega)
     have hnn : ∀ j, j < i + 1 → 0 ≤ qs[j]!.num := fun j hj => by
      rcases Nat.lt_or_ge j i with h | h
      ·exact unhide HP j h
      ·obtain rfl : j = i := by omega
       rw [unhide HQQ]; omega
     have HNN := hide hnn
     clear hpos r hcs hb1 bl H3 HQ HL hqq hnn hsn bda bdb hJ HC
     go_wp2_with fail
     refine (unhide HSG).mono ?_
     rintro e w5 ⟨rfl, hb5⟩
     have HB5 := hide (below_step (unhide HB1) hb5)
     clear hb5
     go_wp2_with fail
     exact ⟨⟨i + 1, by go_num, hlt, unhide HNN, unhide HB5⟩, by simp [intOf]; omega⟩
   ·obtain rfl : i = qs.length := by omega
    have HSM := hide (sumR_any _ qs J wr ((unhide HL).below bl) (unhide HQ) hJ)
    have hno : ¬ ∃ j, j < qs.length ∧ qs[j]!.num < 0 := fun ⟨j, hj, hn⟩ => by have := unhide HP j hj; omega
    have hck : chk qs = if qsum qs qs.length = 1 then 0 else 10 := by rw [unhide HC, if_neg hno]
    have HCK := hide hck
    have hsr := qsum_RS (unhide HQ) qs.length (Nat.le_refl _)
    have s1 : Sm ((qsum qs qs.length).num.natAbs : Int) := sm_of hsr.1 (by omega)
    have s2 : Sm ((qsum qs qs.length).den : Int) := sm_of hsr.2 (by omega)
    clear hpos H3 HL bl hno hck hsr hJ HC HP HQ
    go_wp2_with fail
    refine (unhide HSM).mono ?_
    rintro e w5 ⟨v5, rfl, hv5, hb5⟩
    have HB5 := hide (below_step (unhide HBL) hb5)
    go_wp2_with fail
    refine (whole_any 1 (by decide) (by decide) w5).mono ?_
    rintro e w6 ⟨v6, rfl, hv6, hb6⟩
    have HB6 := hide (below_step (unhide HB5) hb6)
    have HCM := hide (cmpR_any _ _ _ _ w6 (hv5.below hb6) hv6 s1 (sm_word (by decide)) s2 (sm_word (by decide)))
    obtain ⟨g, hg⟩ : ∃ g, Wd.sg ((qsum qs qs.length).num * ((1 : Int) : Rat).den) (((1 : Int) : Rat).num * (qsum qs qs.length).den) = g := ⟨_, rfl⟩
    rw [hg] at HCM
    have hgr := sg_range ((qsum qs qs.length).num * ((1 : Int) : Rat).den) (((1 : Int) : Rat).num * (qsum qs qs.length).den)
    rw [hg] at hgr
    obtain ⟨hgr0, hgr1⟩ := hgr
    have hgz : g = 0 ↔ qsum qs qs.length = 1 := by rw [← hg, sg_zero, ← Rat.eq_iff_mul_eq_mul]; rfl
    have v5s : ∃ x0 x1 x2, v5 = .agg #[x0, x1, x2] := by obtain ⟨ov, un, rfl, _⟩ := hv5; exact ⟨_, _, _, rfl⟩
    obtain ⟨x0, x1, x2, rfl⟩ := v5s
    clear hv5 hb5 hv6 hb6 hg s1 s2
    by_cases hone : qsum qs qs.length = 1
    ·obtain rfl := hgz.2 hone
     rw [if_pos hone] at HCK
     clear hgz hone
     go_wp2_with fail
     refine (unhide HCM).mono ?_
     rintro e w7 ⟨rfl, hb7⟩
     go_wp2
     go_ret
     exact ⟨by rw [unhide HCK]; rfl, below_step (unhide HB6) hb7⟩
    ·have hgn : (g != 0) = true := by rw [bne_iff_ne]; exact fun h => hone (hgz.1 h)
     rw [if_neg hone] at HCK
     clear hgz hone
     go_wp2_with fail
     refine (unhide HCM).mono ?_
     rintro e w7 ⟨rfl, hb7⟩
     go_wp2
     go_ret
     exact ⟨by rw [unhide HCK]; rfl, below_step (unhide HB6) hb7⟩
end Go.Proofs.YtcelbgleajpenaaGreatDoor
/- Pairs of whole numbers made a row of fractions. -/
namespace Go.Proofs.YtcelbgleajpenaaGreatDoor
open Go.RowKit Go.Sort Go.Shelf

def pq (p : Int × Int) : Rat := Rat.divInt p.1 (if p.2 = 0 then 1 else p.2)
def pqs (ps : List (Int × Int)) : List Rat := ps.map pq
theorem pqs_length (ps : List (Int × Int)) : (pqs ps).length = ps.length := by simp [pqs]
def I64 (x : Int) : Prop := -9223372036854775808 ≤ x ∧ x ≤ 9223372036854775807

theorem pq_RS {p : Int × Int} (h1 : I64 p.1) (h2 : I64 p.2) : RS (pq p) 1 := by
 obtain ⟨x, y⟩ := p
 unfold pq I64 at *
 have hy : (if y = 0 then 1 else y) ≠ 0 := by split <;> omega
 have hb : (if y = 0 then 1 else y).natAbs ≤ 9223372036854775808 := by split <;> omega
 have e := of_math (x := x) hy
 simp only at *
 rw [← e]
 have m := mkRat_bd (sn (decide (x < 0) != decide ((if y = 0 then 1 else y) < 0)) (x.natAbs : Int)) (if y = 0 then 1 else y).natAbs (by omega)
 rw [sn_abs, Int.natAbs_natCast] at m
 refine ⟨?_, ?_⟩
 ·rw [Wd.pw_one]; omega
 ·rw [Wd.pw_one]; omega

def PairsAre (w : World) (v : Value) (ps : List (Int × Int)) : Prop := ∃ (a : Option Addr) (c : Nat), v = .slice a ps.length c ∧ ps.length ≤ c ∧ c ≤ 9223372036854775807 ∧ (∀ j, j < ps.length → I64 (ps[j]!).1 ∧ I64 (ps[j]!).2) ∧
 (0 < ps.length → ∃ b o, a = some ⟨b, o, none⟩ ∧ b < w.heap.size ∧ ∀ j, j < ps.length → w.cell? ⟨b, o + j * 2, none⟩ = some (.int .i64 (ps[j]!).1) ∧ w.cell? ⟨b, o + j * 2 + 1, none⟩ = some (.int .i64 (ps[j]!).2))

theorem PairsAre.below {w w' : World} {v : Value} {ps : List (Int × Int)} (h : PairsAre w v ps) (hb : Below w.heap.size w w') : PairsAre w' v ps := by
 obtain ⟨a, c, e, h1, h2, h4, h3⟩ := h
 refine ⟨a, c, e, h1, h2, h4, fun hp => ?_⟩
 obtain ⟨b, o, ea, hlt, hc⟩ := h3 hp
 refine ⟨b, o, ea, Nat.lt_of_lt_of_le hlt hb.size, fun j hj => ?_⟩
 rw [hb.cell (p := ⟨b, o + j * 2, none⟩) hlt, hb.cell (p := ⟨b, o + j * 2 + 1, none⟩) hlt]
 exact hc j hj

abbrev Tri : Type := Bool × Option Addr × Option Addr × Nat × Nat × Nat × Nat
abbrev Tri.s (t : Tri) : Bool := t.1
abbrev Tri.a1 (t : Tri) : Option Addr := t.2.1
abbrev Tri.a2 (t : Tri) : Option Addr := t.2.2.1
abbrev Tri.n1 (t : Tri) : Nat := t.2.2.2.1
abbrev Tri.c1 (t : Tri) : Nat := t.2.2.2.2.1
abbrev Tri.n2 (t : Tri) : Nat := t.2.2.2.2.2.1
abbrev Tri.c2 (t : Tri) : Nat := t.2.2.2.2.2.2
def Tri.val (t : Tri) : Value := .agg #[.bool t.s, .slice t.a1 t.n1 t.c1, .slice t.a2 t.n2 t.c2]
def Tri.cells (t : Tri) : List Value := [.bool t.s, .slice t.a1 t.n1 t.c1, .slice t.a2 t.n2 t.c2]
def tcells (ts : List Tri) : List Value := ts.flatMap Tri.cells
theorem tcells_length (ts : List Tri) : (tcells ts).length = ts.length * 3 := by
 induction ts with
 | nil => rfl
 | cons t ts ih => simp only [tcells, List.flatMap_cons, List.length_append, List.length_cons] at *; simp only [Tri.cells, List.length_cons, List.length_nil]; omega
theorem tcells_append (ts : List Tri) (t : Tri) : tcells (ts ++ [t]) = tcells ts ++ t.cells := by simp [tcells]
theorem tcells_get (ts : List Tri) (j k : Nat) (hj : j < ts.length) (hk : k < 3) : (tcells ts)[j * 3 + k]? = (ts[j]!).cells[k]? := by
 induction ts generalizing j with
 | nil => simp at hj
 | cons t ts ih =>
  have e : tcells (t :: ts) = t.cells ++ tcells ts := by simp [tcells]
  have hl : t.cells.length = 3 := rfl
  rw [e]
  cases j with
  | zero => rw [List.getElem?_append_left (by omega)]; simp
  | succ j =>
   rw [List.getElem?_append_right (by omega), hl, show (j + 1) * 3 + k - 3 = j * 3 + k by omega, ih j (by simpa using hj)]
   simp

theorem law_of_owns {w : World} {B : Nat} {v : Value} {ts : List Tri} {qs : List Rat} (h : w.ownsRow B 37 3 v ts.length (tcells ts)) (hl : ts.length = qs.length) (hr : ∀ j, j < ts.length → RatIs w (ts[j]!).val qs[j]!) : LawIs w v qs := by
 obtain ⟨h1, ⟨rfl, h2⟩ | ⟨g, cap, cur, rfl, hb, hh, hc1, hc2, hs, ht⟩⟩ := h
 ·refine ⟨none, 0, by rw [← hl, h2], by omega, by decide, fun hp => by omega⟩
 ·refine ⟨_, cap, by rw [hl], by omega, hc2, fun hp => ⟨g, 0, rfl, (Array.getElem?_eq_some_iff.1 hh).1, fun j hj => ?_⟩⟩
  have cellk : ∀ k, k < 3 → w.cell? ⟨g, 0 + j * 3 + k, none⟩ = (ts[j]!).cells[k]? := fun k hk => by
   simp only [World.cell?, hh, Nat.zero_add]
   have e : (cur.toList.take (ts.length * 3))[j * 3 + k]? = (tcells ts)[j * 3 + k]? := by rw [ht]
   rw [List.getElem?_take_of_lt (by omega), tcells_get ts j k (by omega) hk] at e
   simpa using e
  exact ⟨_, _, _, _, _, _, _, cellk 0 (by decide), cellk 1 (by decide), cellk 2 (by decide), hr j (by omega)⟩
end Go.Proofs.YtcelbgleajpenaaGreatDoor
