/- A statement whose loads may be taken first, for what writes their cells waits for them: the laws. -/
import Derived.Test.YtcelbgleajpenaaGreatDoorA6
import Derived.Deep.RegionHeld3
namespace Go.Proofs.YtcelbgleajpenaaGreatDoor
open Go.RowKit Go.Sort Go.Shelf

section
variable {P : Program} {ops : Array Oper} {Q : Exit → Act → World → Prop} {md : Region.Mode} {C : World → Prop} {st : Nat}

def wpTill (P : Program) (md : Region.Mode) (ops : Array Oper) (Q : Exit → Act → World → Prop) (C : World → Prop) (st : Nat) : Nat → Array Bool → Act → World → Prop
 | 0, listed, a, w => Region.ready md ops listed = [] ∧ Q .normal a w
 | fuel + 1, listed, a, w => (Region.ready md ops listed = [] → Q .normal a w) ∧
   ∀ i ∈ Region.ready md ops listed, wpOp P ops Q i (fun a' w' => ((listed.setIfInBounds i true).getD st true = false → C w') ∧ wpTill P md ops Q C st fuel (listed.setIfInBounds i true) a' w') a w

theorem wpAny_of_till : ∀ (fuel : Nat) (listed : Array Bool) (a : Act) (w : World), wpTill P md ops Q C st fuel listed a w → wpAny P md ops Q fuel listed a w
 | 0, _, _, _, h => h
 | fuel + 1, _, _, _, h => ⟨h.1, fun i hi => wpOp_mono (fun a' w' h' => wpAny_of_till fuel _ a' w' h'.2) (h.2 i hi)⟩

def waits (md : Region.Mode) (ops : Array Oper) (st i : Nat) : Bool := match ops[st]? with
 | some o => o.after.any fun e => Region.binds md e && e.on == i
 | none => false

theorem not_ready_st {i : Nat} {listed : Array Bool} (hw : waits md ops st i = true) (hi : listed.getD i true = false) : st ∉ Region.ready md ops listed := fun h => by
 obtain ⟨_, o, ho, hall⟩ := mem_ready.1 h
 unfold waits at hw
 simp only [ho] at hw
 rw [Array.any_eq_true] at hw
 obtain ⟨k, hk, he⟩ := hw
 rw [Bool.and_eq_true, beq_iff_eq] at he
 have h1 := hall _ (Array.getElem_mem hk) he.1
 rw [he.2] at h1
 rcases Nat.lt_or_ge i listed.size with h' | h'
 ·simp [h'] at hi h1; rw [hi] at h1; cases h1
 ·simp [Array.getElem?_eq_none h'] at h1

theorem wpTill_first {i : Nat} {oi : Oper} {v : Value} (hi : ops[i]? = some oi) (hsel : ∀ (j : Nat) (o : Oper) cs b, ops[j]? = some o → o.op ≠ .select cs b)
  (hQ : ∀ c a w, Q (.panic c) (a.put oi.dst v) w → Q (.panic c) a w) (hw : waits md ops st i = true) (hne : i ≠ st) :
  ∀ (fuel : Nat) (listed : Array Bool) (a : Act) (w : World),
   (∀ j oj, ops[j]? = some oj → j ≠ i → listed.getD j true = false → (∀ e ∈ oj.after, Region.binds md e = true → e.on ≠ i) → oi.apart ops oj = true) →
   i ∈ Region.ready md ops listed → listed.getD st true = false → YieldsIf P ops C oi v a → C w →
   wpTill P md ops Q C st fuel (listed.setIfInBounds i true) (a.put oi.dst v) w → wpTill P md ops Q C st (fuel + 1) listed a w := by
 intro fuel
 induction fuel with
 | zero =>
  intro listed a w _ hr _ hy hC H
  refine ⟨fun h => (by rw [h] at hr; cases hr), fun j hj => ?_⟩
  rcases Decidable.em (j = i) with rfl | hji
  ·exact hy.wpOp hi hC ⟨fun _ => hC, H⟩
  ·have := ready_mono hj hji
   rw [H.1] at this
   cases this
 | succ fuel ih =>
  intro listed a w hfree hr hst hy hC H
  refine ⟨fun h => (by rw [h] at hr; cases hr), fun j hj => ?_⟩
  rcases Decidable.em (j = i) with rfl | hji
  ·exact hy.wpOp hi hC ⟨fun _ => hC, H⟩
  ·have hi0 := (mem_ready.1 hr).1
   have hjst : j ≠ st := fun e => by subst e; exact not_ready_st hw hi0 hj
   have h1 := H.2 j (ready_mono hj hji)
   obtain ⟨hjun, oj, hoj, hall⟩ := mem_ready.1 hj
   have hnot : ∀ e ∈ oj.after, Region.binds md e = true → e.on ≠ i := fun e he hb heq => by
    have h2 := hall e he hb
    rw [heq] at h2
    rcases Nat.lt_or_ge i listed.size with h' | h'
    ·simp [h'] at hi0 h2; rw [hi0] at h2; cases h2
    ·simp [Array.getElem?_eq_none h'] at h2
   have h2 := wpOp_putIf hoj (hfree j oj hoj hji hjun hnot) (fun cs b => hsel i oi cs b hi) (fun cs b => hsel j oj cs b hoj) hQ hy h1
   have e1 : (listed.setIfInBounds j true).getD st true = false := by rw [getD_set_ne true hjst]; exact hst
   have e2 : ((listed.setIfInBounds i true).setIfInBounds j true).getD st true = false := by rw [getD_set_ne true hjst, getD_set_ne true hne]; exact hst
   refine wpOp_mono (fun a' w' h3 => ?_) h2
   have hC' := h3.2.1 e2
   refine ⟨fun _ => hC', ih (listed.setIfInBounds j true) a' w' (fun k ok hk hki hun hno => ?_) (ready_mono hr (Ne.symm hji)) e1 h3.1 hC' ?_⟩
   ·refine hfree k ok hk hki ?_ hno
    rcases Decidable.em (j = k) with rfl | hjk
    ·exact hjun
    ·rw [getD_set_ne true hjk] at hun; exact hun
   ·rw [Array.setIfInBounds_comm _ _ hji]
    exact h3.2.2

theorem wpTill_take {i : Nat} {oi : Oper} {v : Value} {fuel : Nat} {listed : Array Bool} {a : Act} {w : World} (hi : ops[i]? = some oi)
  (hs : Region.noSelect ops = true) (hf : Region.free md ops listed i = true) (hr : (Region.ready md ops listed).contains i = true) (hw : waits md ops st i = true) (hne : (i != st) = true) (hst : listed.getD st true = false)
  (hQ : ∀ c a w, Q (.panic c) (a.put oi.dst v) w → Q (.panic c) a w) (hy : YieldsIf P ops C oi v a) (hC : C w)
  (h : wpTill P md ops Q C st fuel (listed.setIfInBounds i true) (a.put oi.dst v) w) : wpTill P md ops Q C st (fuel + 1) listed a w :=
 wpTill_first hi (Region.noSelect_spec hs) hQ hw (by simpa using hne) fuel listed a w (Region.free_spec hi hf) (by simpa using hr) hst hy hC h

theorem wpTill_pure_first {i : Nat} {oi : Oper} {v : Value} (hi : ops[i]? = some oi) (hsel : ∀ (j : Nat) (o : Oper) cs b, ops[j]? = some o → o.op ≠ .select cs b)
  (hQ : ∀ c a w, Q (.panic c) (a.put oi.dst v) w → Q (.panic c) a w) (hne : i ≠ st) :
  ∀ (fuel : Nat) (listed : Array Bool) (a : Act) (w : World),
   (∀ j oj, ops[j]? = some oj → j ≠ i → listed.getD j true = false → (∀ e ∈ oj.after, Region.binds md e = true → e.on ≠ i) → oi.apart ops oj = true) →
   i ∈ Region.ready md ops listed → YieldsIf P ops (fun _ => True) oi v a → (listed.getD st true = false → C w) →
   wpTill P md ops Q C st fuel (listed.setIfInBounds i true) (a.put oi.dst v) w → wpTill P md ops Q C st (fuel + 1) listed a w := by
 intro fuel
 induction fuel with
 | zero =>
  intro listed a w _ hr hy hC H
  refine ⟨fun h => (by rw [h] at hr; cases hr), fun j hj => ?_⟩
  rcases Decidable.em (j = i) with rfl | hji
  ·exact hy.wpOp hi trivial ⟨fun h => hC (by rw [getD_set_ne true hne] at h; exact h), H⟩
  ·have := ready_mono hj hji
   rw [H.1] at this
   cases this
 | succ fuel ih =>
  intro listed a w hfree hr hy hC H
  refine ⟨fun h => (by rw [h] at hr; cases hr), fun j hj => ?_⟩
  rcases Decidable.em (j = i) with rfl | hji
  ·exact hy.wpOp hi trivial ⟨fun h => hC (by rw [getD_set_ne true hne] at h; exact h), H⟩
  ·have hi0 := (mem_ready.1 hr).1
   have h1 := H.2 j (ready_mono hj hji)
   obtain ⟨hjun, oj, hoj, hall⟩ := mem_ready.1 hj
   have hnot : ∀ e ∈ oj.after, Region.binds md e = true → e.on ≠ i := fun e he hb heq => by
    have h2 := hall e he hb
    rw [heq] at h2
    rcases Nat.lt_or_ge i listed.size with h' | h'
    ·simp [h'] at hi0 h2; rw [hi0] at h2; cases h2
    ·simp [Array.getElem?_eq_none h'] at h2
   have h2 := wpOp_putIf hoj (hfree j oj hoj hji hjun hnot) (fun cs b => hsel i oi cs b hi) (fun cs b => hsel j oj cs b hoj) hQ hy h1
   refine wpOp_mono (fun a' w' h3 => ?_) h2
   have hC' : (listed.setIfInBounds j true).getD st true = false → C w' := fun h => h3.2.1 (by
    rw [Array.setIfInBounds_comm _ _ (Ne.symm hji), getD_set_ne true hne]; exact h)
   refine ⟨hC', ih (listed.setIfInBounds j true) a' w' (fun k ok hk hki hun hno => ?_) (ready_mono hr (Ne.symm hji)) h3.1 hC' ?_⟩
   ·refine hfree k ok hk hki ?_ hno
    rcases Decidable.em (j = k) with rfl | hjk
    ·exact hjun
    ·rw [getD_set_ne true hjk] at hun; exact hun
   ·rw [Array.setIfInBounds_comm _ _ hji]
    exact h3.2.2

theorem wpTill_pure {i : Nat} {oi : Oper} {v : Value} {fuel : Nat} {listed : Array Bool} {a : Act} {w : World} (hi : ops[i]? = some oi)
  (hs : Region.noSelect ops = true) (hf : Region.free md ops listed i = true) (hr : (Region.ready md ops listed).contains i = true) (hne : (i != st) = true)
  (hQ : ∀ c a w, Q (.panic c) (a.put oi.dst v) w → Q (.panic c) a w) (hy : YieldsIf P ops (fun _ => True) oi v a) (hC : listed.getD st true = false → C w)
  (h : wpTill P md ops Q C st fuel (listed.setIfInBounds i true) (a.put oi.dst v) w) : wpTill P md ops Q C st (fuel + 1) listed a w :=
 wpTill_pure_first hi (Region.noSelect_spec hs) hQ (by simpa using hne) fuel listed a w (Region.free_spec hi hf) (by simpa using hr) hy hC h

theorem wpTill_one {k : Nat} {o : Oper} {fuel : Nat} {listed : Array Bool} {a : Act} {w : World} (hr : Region.ready md ops listed = [k]) (ho : ops[k]? = some o)
  (h : ∀ K' : Act → World → Prop, Shut (∀ a w, ((listed.setIfInBounds k true).getD st true = false → C w) → wpTill P md ops Q C st fuel (listed.setIfInBounds k true) a w → K' a w) → if Region.wanted o (yielded ops a.tmps) = true then Oper.wp P o a w K' Q else K' (a.put o.dst undef) w) :
  wpTill P md ops Q C st (fuel + 1) listed a w := by
 refine ⟨fun h0 => (by rw [hr] at h0; cases h0), fun i hi => ?_⟩
 rw [hr] at hi
 obtain rfl := List.mem_singleton.1 hi
 exact wpOp_step ho (fun K' hK => h K' (fun a w hS hW => hK a w ⟨hS, hW⟩))

theorem wpTill_done {listed : Array Bool} {a : Act} {w : World} (hr : Region.ready md ops listed = []) (h : Q .normal a w) : ∀ fuel, wpTill P md ops Q C st fuel listed a w
 | 0 => ⟨hr, h⟩
 | _ + 1 => ⟨fun _ => h, by rw [hr]; simp⟩

theorem wp_region_till {id : Nat} {a : Act} {w : World} (C : World → Prop) (st : Nat) (hm : P.follows .mixedOrders = true) (h : wpTill P .any ops Q C st ops.size (Array.replicate ops.size false) a w.drew) : (Code.region id ops true).wp P Q a w :=
 wp_region_any hm (wpAny_of_till _ _ _ _ h)
end
end Go.Proofs.YtcelbgleajpenaaGreatDoor
/- Two numbers mixed in place: the mathematics, and what the loop keeps. -/
namespace Go.Proofs.YtcelbgleajpenaaGreatDoor
open Go.RowKit Go.Sort Go.Shelf

theorem mix_val {ex dx dy : Array Int} {i : Nat} {x y p q ca ch bo : Int} (hi : i < ex.size) (hx : dx[i]! = x) (hy : dy[i]! = y) (hb0 : 0 ≤ bo) (hb1 : bo ≤ 1)
  (hv : Wd.vl (fun j => ex[j]!) i = p * Wd.vl (fun j => dx[j]!) i - q * Wd.vl (fun j => dy[j]!) i + Wd.pw i * (ch + bo - ca)) :
  Wd.vl (fun j => (ex.setIfInBounds i (((p * x + ca) % 18446744073709551616 - (q * y + ch) % 18446744073709551616 - bo) % 18446744073709551616))[j]!) (i + 1) =
   p * Wd.vl (fun j => dx[j]!) (i + 1) - q * Wd.vl (fun j => dy[j]!) (i + 1) + Wd.pw (i + 1) * ((q * y + ch) / 18446744073709551616 + bor ((p * x + ca) % 18446744073709551616) ((q * y + ch) % 18446744073709551616 + bo) - (p * x + ca) / 18446744073709551616) := by
 rw [vl_set ex i _ hi, Wd.vl_succ, Wd.vl_succ, hx, hy, Wd.pw_succ, hv]
 have e1 := Int.emod_add_mul_ediv (p * x + ca) 18446744073709551616
 have e2 := Int.emod_add_mul_ediv (q * y + ch) 18446744073709551616
 have m1 : 0 ≤ (p * x + ca) % 18446744073709551616 := by omega
 have m2 : (p * x + ca) % 18446744073709551616 < 18446744073709551616 := by omega
 have m3 : 0 ≤ (q * y + ch) % 18446744073709551616 := by omega
 have m4 : (q * y + ch) % 18446744073709551616 < 18446744073709551616 := by omega
 generalize (p * x + ca) % 18446744073709551616 = a at *
 generalize (q * y + ch) % 18446744073709551616 = t at *
 generalize (p * x + ca) / 18446744073709551616 = ca' at *
 generalize (q * y + ch) / 18446744073709551616 = ch' at *
 have e := bor_eq a (t + bo) m1 m2 (by omega) (by omega)
 rw [show a - t - bo = a - (t + bo) by omega, e]
 generalize bor a (t + bo) = z at *
 generalize Wd.pw i = P at *
 generalize Wd.vl (fun j => dx[j]!) i = X at *
 generalize Wd.vl (fun j => dy[j]!) i = Y at *
 have f1 : p * (X + P * x) = p * X + P * (p * x) := by grind
 have f2 : q * (Y + P * y) = q * Y + P * (q * y) := by grind
 have f3 : p * x = a + 18446744073709551616 * ca' - ca := by omega
 have f4 : q * y = t + 18446744073709551616 * ch' - ch := by omega
 rw [f1, f2, f3, f4]
 grind

theorem mix_fin {V P p q X Y kx ky c T : Int} (h : V = p * X - q * Y + P * c) (h0 : 0 ≤ V) (h1 : V < P) (hT : T = p * (X + P * kx) - q * (Y + P * ky)) (t0 : 0 ≤ T) (t1 : T < P) : V = T := by
 have e : T - V = P * (p * kx - q * ky - c) := by subst h hT; grind
 generalize p * kx - q * ky - c = d at e
 rcases Int.lt_trichotomy d 0 with hd | hd | hd
 ·have : P * d ≤ P * (-1) := Int.mul_le_mul_of_nonneg_left (by omega) (by omega)
  omega
 ·subst hd; omega
 ·have : P * 1 ≤ P * d := Int.mul_le_mul_of_nonneg_left (by omega) (by omega)
  omega

theorem vl_upper (d : Array Int) (n m : Nat) (h : n ≤ m) : ∃ k, Wd.vl (fun j => d[j]!) m = Wd.vl (fun j => d[j]!) n + Wd.pw n * k := by
 obtain ⟨r, rfl⟩ := Nat.exists_eq_add_of_le h
 exact ⟨_, Wd.vl_split _ n r⟩

def HeadRow (w : World) (g : Nat) (d : Array Int) : Prop := ∃ cur, w.heap[g]? = some (.cells cur 134 (0, 0)) ∧ ∀ j, j < d.size → cur[j]? = some (enc d[j]!)
theorem OwnRow.head {w : World} {g : Nat} {d : Array Int} (h : OwnRow w g d) : HeadRow w g d := by
 refine ⟨_, h, fun j hj => ?_⟩
 rw [getElem!_pos d j hj]
 simp [hj]
theorem HeadRow.lt {w : World} {g : Nat} {d : Array Int} (h : HeadRow w g d) : g < w.heap.size := by
 obtain ⟨cur, h, _⟩ := h
 exact (Array.getElem?_eq_some_iff.1 h).1
theorem HeadRow.holds {w : World} {g : Nat} {d : Array Int} (h : HeadRow w g d) : Holds enc w g 0 d := fun j hj => by
 obtain ⟨cur, h, hc⟩ := h
 refine ⟨?_, ?_⟩
 ·simp only [World.cell?, h]
  simpa using hc j hj
 ·simp [World.frozen?, h]
theorem HeadRow.rowIs {w : World} {g : Nat} {d : Array Int} {c : Nat} (h : HeadRow w g d) (h1 : d.size ≤ c) (h2 : c ≤ 9223372036854775807) : RowIs w (some ⟨g, 0, none⟩) d.size c (fun j => d[j]!) :=
 ⟨h1, h2, fun _ => ⟨g, 0, rfl, h.lt, fun j hj => (h.holds j hj).1⟩⟩
theorem HeadRow.below {w w' : World} {g B : Nat} {d : Array Int} (h : HeadRow w g d) (hb : Below B w w') (hg : g < B) : HeadRow w' g d := by
 obtain ⟨cur, h, hc⟩ := h
 exact ⟨cur, by rw [hb.block g hg]; exact h, hc⟩
theorem head_set {w : World} {g : Nat} {d : Array Int} {i : Nat} {x : Int} (h : HeadRow w g d) (hi : i < d.size) : HeadRow (w.setCell ⟨g, i, none⟩ (.int .u64 x)) g (d.setIfInBounds i x) := by
 obtain ⟨cur, h, hc⟩ := h
 rw [setCell_eq]
 refine ⟨cur.setIfInBounds i (.int .u64 x), ?_, fun j hj => ?_⟩
 ·simp [mapBlock, Array.getElem?_modify, h, onCells]
 ·rw [Array.size_setIfInBounds] at hj
  have hcs : i < cur.size := (Array.getElem?_eq_some_iff.1 (hc i hi)).1
  rcases Decidable.em (j = i) with rfl | hji
  ·rw [getElem!_set_same d j x hi]; simp [hcs]
  ·rw [getElem!_set_other d i j x hji, Array.getElem?_setIfInBounds_ne (Ne.symm hji)]; exact hc j hj
theorem head_set_other {w : World} {g g' i : Nat} {d : Array Int} {x : Value} (h : HeadRow w g d) (hne : g ≠ g') : HeadRow (w.setCell ⟨g', i, none⟩ x) g d := by
 obtain ⟨cur, h, hc⟩ := h
 rw [setCell_eq]
 refine ⟨cur, ?_, hc⟩
 simp only [mapBlock, Array.getElem?_modify]
 rw [if_neg (Ne.symm hne)]
 exact h

structure DoneAt (base hs : Nat) (w0 wr : World) (gx gy g1 g2 i : Nat) (dx dy : Array Int) (p q r s : Int) (ex ey : Array Int) (ca1 ch1 bo1 ca2 ch2 bo2 : Int) : Prop where
 ox : HeadRow wr gx ex
 oy : HeadRow wr gy ey
 sx : ex.size = dx.size
 sy : ey.size = dy.size
 wx : ∀ j, j < dx.size → Wd.W64 ex[j]!
 wy : ∀ j, j < dy.size → Wd.W64 ey[j]!
 rx : ∀ j, i ≤ j → ex[j]! = dx[j]!
 ry : ∀ j, i ≤ j → ey[j]! = dy[j]!
 m1 : MixIs wr g1 p q ca1 ch1 bo1
 m2 : MixIs wr g2 r s ca2 ch2 bo2
 b1 : Wd.W64 ca1 ∧ Wd.W64 ch1 ∧ 0 ≤ bo1 ∧ bo1 ≤ 1
 b2 : Wd.W64 ca2 ∧ Wd.W64 ch2 ∧ 0 ≤ bo2 ∧ bo2 ≤ 1
 vx : Wd.vl (fun j => ex[j]!) i = p * Wd.vl (fun j => dx[j]!) i - q * Wd.vl (fun j => dy[j]!) i + Wd.pw i * (ch1 + bo1 - ca1)
 vy : Wd.vl (fun j => ey[j]!) i = r * Wd.vl (fun j => dy[j]!) i - s * Wd.vl (fun j => dx[j]!) i + Wd.pw i * (ch2 + bo2 - ca2)
 bl : Below base w0 wr
 sz : wr.heap.size = hs

theorem Apart.head {g k : Nat} {w w' : World} {d : Array Int} (h : Apart g w w') (ho : HeadRow w k d) (hne : k ≠ g) : HeadRow w' k d := by
 obtain ⟨cur, ho, hc⟩ := ho
 exact ⟨cur, by rw [h.block k hne]; exact ho, hc⟩
theorem Apart.mix {g k : Nat} {w w' : World} {p q ca ch bo : Int} (h : Apart g w w') (ho : MixIs w k p q ca ch bo) (hne : k ≠ g) : MixIs w' k p q ca ch bo := by
 unfold MixIs at *; rw [h.block k hne]; exact ho
theorem Apart.below {g B : Nat} {w w' : World} (h : Apart g w w') (hg : B ≤ g) : Below B w w' := ⟨h.os, h.tape, h.output, by rw [h.size]; exact Nat.le_refl _, fun k hk => h.block k (by omega)⟩
theorem mix_other {w : World} {g k i : Nat} {v : Value} {p q ca ch bo : Int} (h : MixIs w k p q ca ch bo) (hne : k ≠ g) : MixIs (w.setCell ⟨g, i, none⟩ v) k p q ca ch bo := by
 rw [setCell_eq]
 unfold MixIs at *
 simp only [mapBlock, Array.getElem?_modify]
 rw [if_neg (Ne.symm hne)]
 exact h

theorem carry_w {p x ca : Int} (hp : Wd.W64 p) (hx : Wd.W64 x) (hc : Wd.W64 ca) : Wd.W64 ((p * x + ca) / 18446744073709551616) := by
 have := mul_word_lt hp hx
 have := hc.1
 have := hc.2
 exact ⟨by omega, by omega⟩

theorem DoneAt.step {base hs : Nat} {w0 wr w1 w2 : World} {gx gy g1 g2 i : Nat} {dx dy : Array Int} {p q r s : Int} {ex ey : Array Int} {ca1 ch1 bo1 ca2 ch2 bo2 : Int}
  (h : DoneAt base hs w0 wr gx gy g1 g2 i dx dy p q r s ex ey ca1 ch1 bo1 ca2 ch2 bo2) (hp : Wd.W64 p) (hq : Wd.W64 q) (hr : Wd.W64 r) (hs' : Wd.W64 s) (hx : i < dx.size) (hy : i < dy.size)
  (n1 : gx ≠ gy) (n2 : gx ≠ g1) (n3 : gx ≠ g2) (n4 : gy ≠ g1) (n5 : gy ≠ g2) (n6 : g1 ≠ g2) (hbx : base ≤ gx) (hby : base ≤ gy) (hb1 : base ≤ g1) (hb2 : base ≤ g2)
  (M1 : MixIs w1 g1 p q ((p * dx[i]! + ca1) / 18446744073709551616) ((q * dy[i]! + ch1) / 18446744073709551616) (bor ((p * dx[i]! + ca1) % 18446744073709551616) ((q * dy[i]! + ch1) % 18446744073709551616 + bo1))) (A1 : Apart g1 wr w1)
  (M2 : MixIs w2 g2 r s ((r * dy[i]! + ca2) / 18446744073709551616) ((s * dx[i]! + ch2) / 18446744073709551616) (bor ((r * dy[i]! + ca2) % 18446744073709551616) ((s * dx[i]! + ch2) % 18446744073709551616 + bo2))) (A2 : Apart g2 w1 w2) :
  ∃ ex' ey' ca1' ch1' bo1' ca2' ch2' bo2', DoneAt base hs w0 ((w2.setCell ⟨gx, i, none⟩ (.int .u64 (((p * dx[i]! + ca1) % 18446744073709551616 - (q * dy[i]! + ch1) % 18446744073709551616 - bo1) % 18446744073709551616))).setCell ⟨gy, i, none⟩
   (.int .u64 (((r * dy[i]! + ca2) % 18446744073709551616 - (s * dx[i]! + ch2) % 18446744073709551616 - bo2) % 18446744073709551616))) gx gy g1 g2 (i + 1) dx dy p q r s ex' ey' ca1' ch1' bo1' ca2' ch2' bo2' := by
 have wxi : Wd.W64 dx[i]! := by rw [← h.rx i (Nat.le_refl _)]; exact h.wx i hx
 have wyi : Wd.W64 dy[i]! := by rw [← h.ry i (Nat.le_refl _)]; exact h.wy i hy
 have ox2 := A2.head (A1.head h.ox n2) n3
 have oy2 := A2.head (A1.head h.oy n4) n5
 refine ⟨ex.setIfInBounds i _, ey.setIfInBounds i _, _, _, _, _, _, _, head_set_other (head_set ox2 (by rw [h.sx]; exact hx)) n1, head_set (head_set_other oy2 (Ne.symm n1)) (by rw [h.sy]; exact hy), by simpa using h.sx, by simpa using h.sy, ?_, ?_, ?_, ?_, mix_other (mix_other (A2.mix M1 n6) (Ne.symm n2)) (Ne.symm n4), mix_other (mix_other M2 (Ne.symm n3)) (Ne.symm n5), ?_, ?_, ?_, ?_, ?_, ?_⟩
 ·exact words_set h.wx (mod_w _) (by rw [h.sx]; exact hx)
 ·exact words_set h.wy (mod_w _) (by rw [h.sy]; exact hy)
 ·intro j hj; rw [getElem!_set_other ex i j _ (by omega)]; exact h.rx j (by omega)
 ·intro j hj; rw [getElem!_set_other ey i j _ (by omega)]; exact h.ry j (by omega)
 ·exact ⟨carry_w hp wxi h.b1.1, carry_w hq wyi h.b1.2.1, (bor_bd _ _).1, (bor_bd _ _).2⟩
 ·exact ⟨carry_w hr wyi h.b2.1, carry_w hs' wxi h.b2.2.1, (bor_bd _ _).1, (bor_bd _ _).2⟩
 ·exact mix_val (by rw [h.sx]; exact hx) rfl rfl h.b1.2.2.1 h.b1.2.2.2 h.vx
 ·exact mix_val (by rw [h.sy]; exact hy) rfl rfl h.b2.2.2.1 h.b2.2.2.2 h.vy
 ·exact (((h.bl.trans (A1.below hb1)).trans (A2.below hb2)).trans (below_setCell hbx)).trans (below_setCell hby)
 ·rw [size_setCell, size_setCell, A2.size, A1.size]; exact h.sz
end Go.Proofs.YtcelbgleajpenaaGreatDoor
/- Several steps of Euclid's done at once, in the memory of both numbers. -/
namespace Go.Proofs.YtcelbgleajpenaaGreatDoor
open Go.RowKit Go.Sort Go.Shelf

structure TwoAt (base : Nat) (w : World) (ga gb ma mb ca cb : Nat) (da db : Array Int) (A B : Int) : Prop where
 ne : ga ≠ gb
 ba : base ≤ ga
 bb : base ≤ gb
 oa : HeadRow w ga da
 ob : HeadRow w gb db
 sa : ma ≤ da.size
 sb : mb ≤ db.size
 sca : da.size ≤ ca
 scb : db.size ≤ cb
 ka : ca ≤ 9223372036854775807
 kb : cb ≤ 9223372036854775807
 wa : ∀ j, j < da.size → Wd.W64 da[j]!
 wb : ∀ j, j < db.size → Wd.W64 db[j]!
 la : Wd.Len A ma
 lb : Wd.Len B mb
 va : Wd.vl (fun j => da[j]!) ma = A
 vb : Wd.vl (fun j => db[j]!) mb = B

def OwnTwo (base : Nat) (w : World) (va vb : Value) (A B : Int) : Prop := ∃ (ga gb ma mb ca cb : Nat) (da db : Array Int), va = .slice (some ⟨ga, 0, none⟩) ma ca ∧ vb = .slice (some ⟨gb, 0, none⟩) mb cb ∧ TwoAt base w ga gb ma mb ca cb da db A B

theorem DoneAt.start {base : Nat} {w W : World} {gx gy g1 g2 : Nat} {dx dy : Array Int} {p q r s : Int} (ox : HeadRow W gx dx) (oy : HeadRow W gy dy) (wx : ∀ j, j < dx.size → Wd.W64 dx[j]!) (wy : ∀ j, j < dy.size → Wd.W64 dy[j]!)
  (m1 : MixIs W g1 p q 0 0 0) (m2 : MixIs W g2 r s 0 0 0) (bl : Below base w W) : DoneAt base W.heap.size w W gx gy g1 g2 0 dx dy p q r s dx dy 0 0 0 0 0 0 :=
 ⟨ox, oy, rfl, rfl, wx, wy, fun _ _ => rfl, fun _ _ => rfl, m1, m2, ⟨⟨by decide, by decide⟩, ⟨by decide, by decide⟩, by decide, by decide⟩, ⟨⟨by decide, by decide⟩, ⟨by decide, by decide⟩, by decide, by decide⟩, by simp [Wd.vl], by simp [Wd.vl], bl, rfl⟩

theorem DoneAt.fin {base hs : Nat} {w0 wr : World} {gx gy g1 g2 n mx my : Nat} {dx dy : Array Int} {p q r s X Y A' B' : Int} {ex ey : Array Int} {ca1 ch1 bo1 ca2 ch2 bo2 : Int}
  (h : DoneAt base hs w0 wr gx gy g1 g2 n dx dy p q r s ex ey ca1 ch1 bo1 ca2 ch2 bo2) (hnx : n ≤ dx.size) (hny : n ≤ dy.size) (hmx : n ≤ mx) (hmy : n ≤ my) (hX : Wd.vl (fun j => dx[j]!) mx = X) (hY : Wd.vl (fun j => dy[j]!) my = Y)
  (hA : A' = p * X - q * Y) (hB : B' = r * Y - s * X) (a0 : 0 ≤ A') (a1 : A' < Wd.pw n) (b0 : 0 ≤ B') (b1 : B' < Wd.pw n) : Wd.vl (fun j => ex[j]!) n = A' ∧ Wd.vl (fun j => ey[j]!) n = B' := by
 obtain ⟨kx, ex'⟩ := vl_upper dx n mx hmx
 obtain ⟨ky, ey'⟩ := vl_upper dy n my hmy
 have bx := Wd.vl_bd (f := fun j => ex[j]!) (n := n) (fun j hj => h.wx j (by omega))
 have bY := Wd.vl_bd (f := fun j => ey[j]!) (n := n) (fun j hj => h.wy j (by omega))
 rw [← hX, ← hY, ex', ey'] at hA hB
 exact ⟨mix_fin h.vx bx.1 bx.2 hA a0 a1, mix_fin h.vy bY.1 bY.2 hB b0 b1⟩

theorem TwoAt.of_done {base hs : Nat} {w0 wr : World} {gx gy g1 g2 n m1 m2 cx cy : Nat} {dx dy : Array Int} {p q r s A' B' : Int} {ex ey : Array Int} {ca1 ch1 bo1 ca2 ch2 bo2 : Int}
  (h : DoneAt base hs w0 wr gx gy g1 g2 n dx dy p q r s ex ey ca1 ch1 bo1 ca2 ch2 bo2) (hne : gx ≠ gy) (hbx : base ≤ gx) (hby : base ≤ gy) (hnx : n ≤ dx.size) (hny : n ≤ dy.size) (kx : dx.size ≤ cx) (ky : dy.size ≤ cy) (kx' : cx ≤ 9223372036854775807) (ky' : cy ≤ 9223372036854775807)
  (hA : Wd.vl (fun j => ex[j]!) n = A') (hB : Wd.vl (fun j => ey[j]!) n = B') (hm1 : m1 ≤ n) (hm2 : m2 ≤ n) (l1 : Wd.Len A' m1) (l2 : Wd.Len B' m2) : OwnTwo base wr (.slice (some ⟨gx, 0, none⟩) m1 cx) (.slice (some ⟨gy, 0, none⟩) m2 cy) A' B' := by
 have e1 : Wd.vl (fun j => ex[j]!) m1 = A' := by
  have e : Wd.vl (fun j => ex[j]!) m1 = Wd.vl (Wd.dig (Wd.vl (fun j => ex[j]!) n)) m1 := Wd.vl_congr (fun j hj => by rw [Wd.dig_vl (fun j hj => h.wx j (by omega)) (by omega)])
  rw [e, hA]; exact Wd.vl_dig_all l1.1 l1.2.1
 have e2 : Wd.vl (fun j => ey[j]!) m2 = B' := by
  have e : Wd.vl (fun j => ey[j]!) m2 = Wd.vl (Wd.dig (Wd.vl (fun j => ey[j]!) n)) m2 := Wd.vl_congr (fun j hj => by rw [Wd.dig_vl (fun j hj => h.wy j (by omega)) (by omega)])
  rw [e, hB]; exact Wd.vl_dig_all l2.1 l2.2.1
 refine ⟨gx, gy, m1, m2, cx, cy, ex, ey, rfl, rfl, hne, hbx, hby, h.ox, h.oy, by rw [h.sx]; omega, by rw [h.sy]; omega, by rw [h.sx]; exact kx, by rw [h.sy]; exact ky, kx', ky', by rw [h.sx]; exact h.wx, by rw [h.sy]; exact h.wy, l1, l2, e1, e2⟩

theorem alloc_heap (w : World) (o : Obj) : (w.alloc o).heap = w.heap.push o := rfl

theorem row_less {w : World} {a : Option Addr} {n c m : Nat} {f : Nat → Int} (h : RowIs w a n c f) (hm : m ≤ n) : RowIs w a m c f := by
 obtain ⟨h1, h2, h3⟩ := h
 refine ⟨by omega, h2, fun hp => ?_⟩
 obtain ⟨b, o, e, hlt, hc⟩ := h3 (by omega)
 exact ⟨b, o, e, hlt, fun j hj => hc j (by omega)⟩

theorem made_three (w : World) (b : Obj) (p q r s : Int) {W : World} (hW : ((w.alloc b).alloc (.cells #[.int .u64 p, .int .u64 q, .int .u64 0, .int .u64 0, .int .u64 0] 236)).alloc (.cells #[.int .u64 r, .int .u64 s, .int .u64 0, .int .u64 0, .int .u64 0] 236) = W) :
  MixIs W (w.heap.size + 1) p q 0 0 0 ∧ MixIs W (w.heap.size + 1 + 1) r s 0 0 0 ∧ Below w.heap.size w W ∧ W.heap.size = w.heap.size + 3 := by
 subst hW
 refine ⟨?_, ?_, ?_, ?_⟩
 ·unfold MixIs; rw [alloc_heap, alloc_heap, alloc_heap, Array.getElem?_push, if_neg (by simp), Array.getElem?_push, if_pos (by simp)]
 ·unfold MixIs; rw [alloc_heap, alloc_heap, alloc_heap, Array.getElem?_push, if_pos (by simp)]
 ·refine (((Below.refl w.heap.size w).alloc (Nat.le_refl _) _).alloc ?_ _).alloc ?_ _
  ·rw [alloc_heap, Array.size_push]; omega
  ·rw [alloc_heap, alloc_heap, Array.size_push, Array.size_push]; omega
 ·rw [alloc_heap, alloc_heap, alloc_heap, Array.size_push, Array.size_push, Array.size_push]

set_option maxHeartbeats 8000000 in
set_option maxRecDepth 100000 in
theorem done_any (sw : Bool) (p q r s : Int) (va vb : Value) (A B A' B' : Int) (base : Nat) (w : World) (hbase : base ≤ w.heap.size) (h : OwnTwo base w va vb A B) (hle : B ≤ A) (hp : Wd.W64 p) (hq : Wd.W64 q) (hr : Wd.W64 r) (hs : Wd.W64 s)
  (e0 : sw = false → A' = p * A - q * B ∧ B' = r * B - s * A) (e1 : sw = true → A' = p * B - q * A ∧ B' = r * A - s * B) (l0 : 0 ≤ B') (l1 : B' < A') (l2 : A' ≤ B) :
  Calls Tryz.prog 166 #[stV sw p q r s, va, vb] w fun e w' => ∃ v1 v2, e = .returned (.tuple #[v1, v2]) ∧ OwnTwo base w' v1 v2 A' B' ∧ Below base w w' ∧ base ≤ w'.heap.size := by
 obtain ⟨ga, gb, ma, mb, ca, cb, da, db, rfl, rfl, T⟩ := h
 have hmm : mb ≤ ma := by
  rcases Nat.lt_or_ge ma mb with h | h
  ·have := Wd.Len.lt T.la T.lb h; omega
  ·exact h
 have hga := T.oa.lt
 have hgb := T.ob.lt
 have sa := T.sa
 have sb := T.sb
 have ka := T.ka
 have kb := T.kb
 have sca := T.sca
 have scb := T.scb
 have hBp := T.lb.2.1
 have HT := hide T
 have HE0 := hide e0
 have HE1 := hide e1
 have HL := hide (show 0 ≤ A' ∧ A' < Wd.pw mb ∧ 0 ≤ B' ∧ B' < Wd.pw mb from ⟨by omega, by omega, by omega, by omega⟩)
 have HP := hide hp
 have HQ := hide hq
 have HR := hide hr
 have HS := hide hs
 have cmbda : mb ≤ ca := by omega
 clear T e0 e1 l0 l1 l2 hBp hp hq hr hs hle
 unfold stV
 cases sw
 ·skip
  obtain ⟨W, hW⟩ : ∃ W, ((w.alloc (.cells #[.int .u64 p, .int .u64 q, .int .u64 r, .int .u64 s, .bool false] 214)).alloc (.cells #[.int .u64 p, .int .u64 q, .int .u64 0, .int .u64 0, .int .u64 0] 236)).alloc (.cells #[.int .u64 r, .int .u64 s, .int .u64 0, .int .u64 0, .int .u64 0] 236) = W := ⟨_, rfl⟩
  obtain ⟨mm1, mm2, bW, sW⟩ := made_three w _ p q r s hW
  have D0 := DoneAt.start (gx := ga) (gy := gb) (dx := da) (dy := db) (base := base) ((unhide HT).oa.below bW hga) ((unhide HT).ob.below bW hgb) (unhide HT).wa (unhide HT).wb mm1 mm2 (bW.mono hbase)
  have HD0 := hide D0
  have HWE := hide hW
  have HSW := hide sW
  clear D0 mm1 mm2 bW sW hW
  go_enter Tryz.func166, Tryz.ntmps166
  go_wp2_with fail
  rw [unhide HWE]
  go_loopw [31] (fun vi wr => ∃ (i : Nat) (ex ey : Array Int) (ca1 ch1 bo1 ca2 ch2 bo2 : Int), vi = .int .i64 i ∧ i ≤ mb ∧ DoneAt base W.heap.size w wr ga gb (w.heap.size + 1) (w.heap.size + 1 + 1) i da db p q r s ex ey ca1 ch1 bo1 ca2 ch2 bo2) (fun vi _ => mb - (intOf vi).toNat)
  case atStart => exact ⟨0, _, _, _, _, _, _, _, _, rfl, Nat.zero_le _, unhide HD0⟩
  case round =>
   obtain ⟨i, ex, ey, ca1, ch1, bo1, ca2, ch2, bo2, rfl, hi, D⟩ := hrel
   have HD := hide D
   by_cases hlt : i < mb
   ·obtain ⟨x, hx⟩ : ∃ x, da[i]! = x := ⟨_, rfl⟩
    obtain ⟨y, hy⟩ : ∃ y, db[i]! = y := ⟨_, rfl⟩
    have wxi := D.wx i (by omega)
    have wyi := D.wy i (by omega)
    have hcx := (D.ox.holds i (by rw [D.sx]; omega)).1
    have hcy := (D.oy.holds i (by rw [D.sy]; omega)).1
    rw [D.rx i (Nat.le_refl _), hx] at hcx wxi
    rw [D.ry i (Nat.le_refl _), hy] at hcy wyi
    rw [Nat.zero_add] at hcx hcy
    have HN1 := hide (fun (w' : World) (hm : MixIs w' (w.heap.size + 1) p q ca1 ch1 bo1) => next_any (w.heap.size + 1) p q ca1 ch1 bo1 x y w' hm (unhide HP) (unhide HQ) D.b1.1 D.b1.2.1 D.b1.2.2.1 D.b1.2.2.2 wxi wyi)
    have HN2 := hide (fun (w' : World) (hm : MixIs w' (w.heap.size + 1 + 1) r s ca2 ch2 bo2) => next_any (w.heap.size + 1 + 1) r s ca2 ch2 bo2 y x w' hm (unhide HR) (unhide HS) D.b2.1 D.b2.2.1 D.b2.2.2.1 D.b2.2.2.2 wyi wxi)
    have hne := (unhide HT).ne
    have STEP := hide (fun (w1 w2 : World) M1 A1 M2 A2 => D.step (w1 := w1) (w2 := w2) (unhide HP) (unhide HQ) (unhide HR) (unhide HS) (by omega) (by omega) (by omega) (by omega) (by omega) (by omega) (by omega) (by omega) (by have := (unhide HT).ba; have := (unhide HT).bb; omega) (by have := (unhide HT).ba; have := (unhide HT).bb; omega) (by omega) (by omega) M1 A1 M2 A2)
    rw [hx, hy] at STEP
    have hi0 : (0 : Int) ≤ (i : Int) := by omega
    have hi1 : (i : Int) < (mb : Int) := by omega
    have hit : ((i : Int)).toNat = i := by omega
    have hm1 := D.m1
    have hm2 := D.m2
    have HX := hide hx
    have HY := hide hy
    have HM1 := hide hm1
    have HM2 := hide hm2
    clear D hm1 hm2 hx hy wxi wyi
    obtain ⟨V1, hV1⟩ : ∃ v, ((p * x + ca1) % 18446744073709551616 - (q * y + ch1) % 18446744073709551616 - bo1) % 18446744073709551616 = v := ⟨_, rfl⟩
    obtain ⟨V2, hV2⟩ : ∃ v, ((r * y + ca2) % 18446744073709551616 - (s * x + ch2) % 18446744073709551616 - bo2) % 18446744073709551616 = v := ⟨_, rfl⟩
    rw [hV1] at HN1 STEP
    rw [hV2] at HN2 STEP
    clear hV1 hV2
    go_wp2_with fail
    refine wp_region_till (fun w' => w'.cell? ⟨ga, i, none⟩ = some (.int .u64 x) ∧ w'.cell? ⟨gb, i, none⟩ = some (.int .u64 y)) 23 (by kernel_rfl) ?_
    have hC0 : (fun w' : World => w'.cell? ⟨ga, i, none⟩ = some (.int .u64 x) ∧ w'.cell? ⟨gb, i, none⟩ = some (.int .u64 y)) wr.drew := ⟨hcx, hcy⟩
    refine wpTill_pure (i := 0) (v := ?_) rfl (by kernel_rfl) (by kernel_rfl) (by kernel_rfl) (by kernel_rfl) (fun _ _ _ h => h) (Or.inl ⟨by rfl, ?_⟩) (fun _ => hC0) ?_
    rotate_left
    ·intro w hSw; clear hSw; go_simp; (try with_reducible rfl)
    (try simp only [List.getElem_toArray, List.getElem_cons_zero])
    (try simp only [Act.put, List.setIfInBounds_toArray, List.set_cons_zero, List.set_cons_succ])
    refine wpTill_pure (i := 1) (v := ?_) rfl (by kernel_rfl) (by kernel_rfl) (by kernel_rfl) (by kernel_rfl) (fun _ _ _ h => h) (Or.inl ⟨by rfl, ?_⟩) (fun _ => hC0) ?_
    rotate_left
    ·intro w hSw; clear hSw; go_simp; (try with_reducible rfl)
    (try simp only [List.getElem_toArray, List.getElem_cons_succ, List.getElem_cons_zero])
    (try simp only [Act.put, List.setIfInBounds_toArray, List.set_cons_zero, List.set_cons_succ])
    refine wpTill_pure (i := 2) (v := ?_) rfl (by kernel_rfl) (by kernel_rfl) (by kernel_rfl) (by kernel_rfl) (fun _ _ _ h => h) (Or.inl ⟨by rfl, ?_⟩) (fun _ => hC0) ?_
    rotate_left
    ·intro w hSw; clear hSw; go_simp; (try with_reducible rfl)
    (try simp only [List.getElem_toArray, List.getElem_cons_succ, List.getElem_cons_zero])
    (try simp only [Act.put, List.setIfInBounds_toArray, List.set_cons_zero, List.set_cons_succ])
    refine wpTill_pure (i := 3) (v := ?_) rfl (by kernel_rfl) (by kernel_rfl) (by kernel_rfl) (by kernel_rfl) (fun _ _ _ h => h) (Or.inl ⟨by rfl, ?_⟩) (fun _ => hC0) ?_
    rotate_left
    ·intro w hSw; clear hSw; go_simp; (try with_reducible rfl)
    (try simp only [List.getElem_toArray, List.getElem_cons_succ, List.getElem_cons_zero])
    (try simp only [Act.put, List.setIfInBounds_toArray, List.set_cons_zero, List.set_cons_succ])
    refine wpTill_pure (i := 4) (v := ?_) rfl (by kernel_rfl) (by kernel_rfl) (by kernel_rfl) (by kernel_rfl) (fun _ _ _ h => h) (Or.inl ⟨by rfl, ?_⟩) (fun _ => hC0) ?_
    rotate_left
    ·intro w hSw; clear hSw; go_simp; (try with_reducible rfl)
    (try simp only [List.getElem_toArray, List.getElem_cons_succ, List.getElem_cons_zero])
    (try simp only [Act.put, List.setIfInBounds_toArray, List.set_cons_zero, List.set_cons_succ])
    refine wpTill_pure (i := 5) (v := ?_) rfl (by kernel_rfl) (by kernel_rfl) (by kernel_rfl) (by kernel_rfl) (fun _ _ _ h => h) (Or.inl ⟨by rfl, ?_⟩) (fun _ => hC0) ?_
    rotate_left
    ·intro w hSw; clear hSw; go_simp; (try with_reducible rfl)
    (try simp only [List.getElem_toArray, List.getElem_cons_succ, List.getElem_cons_zero])
    (try simp only [Act.put, List.setIfInBounds_toArray, List.set_cons_zero, List.set_cons_succ])
    refine wpTill_pure (i := 6) (v := ?_) rfl (by kernel_rfl) (by kernel_rfl) (by kernel_rfl) (by kernel_rfl) (fun _ _ _ h => h) (Or.inl ⟨by rfl, ?_⟩) (fun _ => hC0) ?_
    rotate_left
    ·intro w hSw; clear hSw; go_simp; (try with_reducible rfl)
    (try simp only [List.getElem_toArray, List.getElem_cons_succ, List.getElem_cons_zero])
    (try simp only [Act.put, List.setIfInBounds_toArray, List.set_cons_zero, List.set_cons_succ])
    refine wpTill_take (i := 7) (v := ?_) rfl (by kernel_rfl) (by kernel_rfl) (by kernel_rfl) (by kernel_rfl) (by kernel_rfl) (by kernel_rfl) (fun _ _ _ h => h) (Or.inl ⟨by rfl, ?_⟩) hC0 ?_
    rotate_left
    ·intro w hSw; (try dsimp only at hSw); obtain ⟨hSx, hSy⟩ := hSw; go_simp; (try with_reducible rfl)
    (try simp only [List.getElem_toArray, List.getElem_cons_succ, List.getElem_cons_zero])
    (try simp only [Act.put, List.setIfInBounds_toArray, List.set_cons_zero, List.set_cons_succ])
    refine wpTill_pure (i := 8) (v := ?_) rfl (by kernel_rfl) (by kernel_rfl) (by kernel_rfl) (by kernel_rfl) (fun _ _ _ h => h) (Or.inl ⟨by rfl, ?_⟩) (fun _ => hC0) ?_
    rotate_left
    ·intro w hSw; clear hSw; go_simp; (try with_reducible rfl)
    (try simp only [List.getElem_toArray, List.getElem_cons_succ, List.getElem_cons_zero])
    (try simp only [Act.put, List.setIfInBounds_toArray, List.set_cons_zero, List.set_cons_succ])
    refine wpTill_pure (i := 9) (v := ?_) rfl (by kernel_rfl) (by kernel_rfl) (by kernel_rfl) (by kernel_rfl) (fun _ _ _ h => h) (Or.inl ⟨by rfl, ?_⟩) (fun _ => hC0) ?_
    rotate_left
    ·intro w hSw; clear hSw; go_simp; (try with_reducible rfl)
    (try simp only [List.getElem_toArray, List.getElem_cons_succ, List.getElem_cons_zero])
    (try simp only [Act.put, List.setIfInBounds_toArray, List.set_cons_zero, List.set_cons_succ])
    refine wpTill_pure (i := 10) (v := ?_) rfl (by kernel_rfl) (by kernel_rfl) (by kernel_rfl) (by kernel_rfl) (fun _ _ _ h => h) (Or.inl ⟨by rfl, ?_⟩) (fun _ => hC0) ?_
    rotate_left
    ·intro w hSw; clear hSw; go_simp; (try with_reducible rfl)
    (try simp only [List.getElem_toArray, List.getElem_cons_succ, List.getElem_cons_zero])
    (try simp only [Act.put, List.setIfInBounds_toArray, List.set_cons_zero, List.set_cons_succ])
    refine wpTill_take (i := 11) (v := ?_) rfl (by kernel_rfl) (by kernel_rfl) (by kernel_rfl) (by kernel_rfl) (by kernel_rfl) (by kernel_rfl) (fun _ _ _ h => h) (Or.inl ⟨by rfl, ?_⟩) hC0 ?_
    rotate_left
    ·intro w hSw; (try dsimp only at hSw); obtain ⟨hSx, hSy⟩ := hSw; go_simp; (try with_reducible rfl)
    (try simp only [List.getElem_toArray, List.getElem_cons_succ, List.getElem_cons_zero])
    (try simp only [Act.put, List.setIfInBounds_toArray, List.set_cons_zero, List.set_cons_succ])
    refine wpTill_pure (i := 13) (v := ?_) rfl (by kernel_rfl) (by kernel_rfl) (by kernel_rfl) (by kernel_rfl) (fun _ _ _ h => h) (Or.inl ⟨by rfl, ?_⟩) (fun _ => hC0) ?_
    rotate_left
    ·intro w hSw; clear hSw; go_simp; (try with_reducible rfl)
    (try simp only [List.getElem_toArray, List.getElem_cons_succ, List.getElem_cons_zero])
    (try simp only [Act.put, List.setIfInBounds_toArray, List.set_cons_zero, List.set_cons_succ])
    refine wpTill_pure (i := 14) (v := ?_) rfl (by kernel_rfl) (by kernel_rfl) (by kernel_rfl) (by kernel_rfl) (fun _ _ _ h => h) (Or.inl ⟨by rfl, ?_⟩) (fun _ => hC0) ?_
    rotate_left
    ·intro w hSw; clear hSw; go_simp; (try with_reducible rfl)
    (try simp only [List.getElem_toArray, List.getElem_cons_succ, List.getElem_cons_zero])
    (try simp only [Act.put, List.setIfInBounds_toArray, List.set_cons_zero, List.set_cons_succ])
    refine wpTill_pure (i := 15) (v := ?_) rfl (by kernel_rfl) (by kernel_rfl) (by kernel_rfl) (by kernel_rfl) (fun _ _ _ h => h) (Or.inl ⟨by rfl, ?_⟩) (fun _ => hC0) ?_
    rotate_left
    ·intro w hSw; clear hSw; go_simp; (try with_reducible rfl)
    (try simp only [List.getElem_toArray, List.getElem_cons_succ, List.getElem_cons_zero])
    (try simp only [Act.put, List.setIfInBounds_toArray, List.set_cons_zero, List.set_cons_succ])
    refine wpTill_take (i := 16) (v := ?_) rfl (by kernel_rfl) (by kernel_rfl) (by kernel_rfl) (by kernel_rfl) (by kernel_rfl) (by kernel_rfl) (fun _ _ _ h => h) (Or.inl ⟨by rfl, ?_⟩) hC0 ?_
    rotate_left
    ·intro w hSw; (try dsimp only at hSw); obtain ⟨hSx, hSy⟩ := hSw; go_simp; (try with_reducible rfl)
    (try simp only [List.getElem_toArray, List.getElem_cons_succ, List.getElem_cons_zero])
    (try simp only [Act.put, List.setIfInBounds_toArray, List.set_cons_zero, List.set_cons_succ])
    refine wpTill_pure (i := 17) (v := ?_) rfl (by kernel_rfl) (by kernel_rfl) (by kernel_rfl) (by kernel_rfl) (fun _ _ _ h => h) (Or.inl ⟨by rfl, ?_⟩) (fun _ => hC0) ?_
    rotate_left
    ·intro w hSw; clear hSw; go_simp; (try with_reducible rfl)
    (try simp only [List.getElem_toArray, List.getElem_cons_succ, List.getElem_cons_zero])
    (try simp only [Act.put, List.setIfInBounds_toArray, List.set_cons_zero, List.set_cons_succ])
    refine wpTill_pure (i := 18) (v := ?_) rfl (by kernel_rfl) (by kernel_rfl) (by kernel_rfl) (by kernel_rfl) (fun _ _ _ h => h) (Or.inl ⟨by rfl, ?_⟩) (fun _ => hC0) ?_
    rotate_left
    ·intro w hSw; clear hSw; go_simp; (try with_reducible rfl)
    (try simp only [List.getElem_toArray, List.getElem_cons_succ, List.getElem_cons_zero])
    (try simp only [Act.put, List.setIfInBounds_toArray, List.set_cons_zero, List.set_cons_succ])
    refine wpTill_pure (i := 19) (v := ?_) rfl (by kernel_rfl) (by kernel_rfl) (by kernel_rfl) (by kernel_rfl) (fun _ _ _ h => h) (Or.inl ⟨by rfl, ?_⟩) (fun _ => hC0) ?_
    rotate_left
    ·intro w hSw; clear hSw; go_simp; (try with_reducible rfl)
    (try simp only [List.getElem_toArray, List.getElem_cons_succ, List.getElem_cons_zero])
    (try simp only [Act.put, List.setIfInBounds_toArray, List.set_cons_zero, List.set_cons_succ])
    refine wpTill_take (i := 20) (v := ?_) rfl (by kernel_rfl) (by kernel_rfl) (by kernel_rfl) (by kernel_rfl) (by kernel_rfl) (by kernel_rfl) (fun _ _ _ h => h) (Or.inl ⟨by rfl, ?_⟩) hC0 ?_
    rotate_left
    ·intro w hSw; (try dsimp only at hSw); obtain ⟨hSx, hSy⟩ := hSw; go_simp; (try with_reducible rfl)
    (try simp only [List.getElem_toArray, List.getElem_cons_succ, List.getElem_cons_zero])
    (try simp only [Act.put, List.setIfInBounds_toArray, List.set_cons_zero, List.set_cons_succ])
    refine wpTill_one (k := 12) (by kernel_rfl) rfl (fun K hK => ?_)
    (try simp only [List.getElem_toArray, List.getElem_cons_succ, List.getElem_cons_zero])
    go_simp
    refine (unhide HN1 _ (unhide HM1).drew).mono ?_
    rintro e w1 ⟨rfl, M1, A1⟩
    have A1' : Apart (w.heap.size + 1) wr w1 := ⟨A1.os, A1.tape, A1.output, A1.size, A1.block⟩
    have ox1 := A1'.head (unhide HD).ox (by omega)
    have oy1 := A1'.head (unhide HD).oy (by omega)
    have m21 := A1'.mix (unhide HM2) (by omega)
    have cx1 := (ox1.holds i (by rw [(unhide HD).sx]; omega)).1
    have cy1 := (oy1.holds i (by rw [(unhide HD).sy]; omega)).1
    rw [(unhide HD).rx i (Nat.le_refl _), unhide HX, Nat.zero_add] at cx1
    rw [(unhide HD).ry i (Nat.le_refl _), unhide HY, Nat.zero_add] at cy1
    have hC1 : (fun w' : World => w'.cell? ⟨ga, i, none⟩ = some (.int .u64 x) ∧ w'.cell? ⟨gb, i, none⟩ = some (.int .u64 y)) w1 := ⟨cx1, cy1⟩
    refine hK.out _ _ (fun _ => hC1) ?_
    clear hK K
    (try simp only [Act.put, List.setIfInBounds_toArray, List.set_cons_zero, List.set_cons_succ])
    refine wpTill_one (k := 21) (by kernel_rfl) rfl (fun K hK => ?_)
    (try simp only [List.getElem_toArray, List.getElem_cons_succ, List.getElem_cons_zero])
    go_simp
    refine (unhide HN2 _ m21).mono ?_
    rintro e w2 ⟨rfl, M2, A2⟩
    have ox2 := A2.head ox1 (by omega)
    have oy2 := A2.head oy1 (by omega)
    have cx2 := (ox2.holds i (by rw [(unhide HD).sx]; omega)).1
    have cy2 := (oy2.holds i (by rw [(unhide HD).sy]; omega)).1
    rw [(unhide HD).rx i (Nat.le_refl _), unhide HX, Nat.zero_add] at cx2
    rw [(unhide HD).ry i (Nat.le_refl _), unhide HY, Nat.zero_add] at cy2
    have hC2 : (fun w' : World => w'.cell? ⟨ga, i, none⟩ = some (.int .u64 x) ∧ w'.cell? ⟨gb, i, none⟩ = some (.int .u64 y)) w2 := ⟨cx2, cy2⟩
    have fx2 := (ox2.holds i (by rw [(unhide HD).sx]; omega)).2
    rw [Nat.zero_add] at fx2
    have oy3 := head_set_other (g' := ga) (i := i) (x := .int .u64 V1) oy2 (by omega)
    have cy3 := (oy3.holds i (by rw [(unhide HD).sy]; omega)).1
    have fy3 := (oy3.holds i (by rw [(unhide HD).sy]; omega)).2
    rw [Nat.zero_add] at cy3 fy3
    have NEW := hide (unhide STEP w1 w2 M1 A1' M2 A2)
    clear M1 M2 A1 A1' A2 ox1 oy1 ox2 oy2 oy3 m21 cx1 cy1 hC0 hC1 STEP HN1 HN2
    refine hK.out _ _ (fun _ => hC2) ?_
    clear hK K
    (try simp only [Act.put, List.setIfInBounds_toArray, List.set_cons_zero, List.set_cons_succ])
    refine wpTill_pure (i := 22) (v := ?_) rfl (by kernel_rfl) (by kernel_rfl) (by kernel_rfl) (by kernel_rfl) (fun _ _ _ h => h) (Or.inl ⟨by rfl, ?_⟩) (fun _ => hC2) ?_
    rotate_left
    ·intro w hSw; clear hSw; go_simp; (try with_reducible rfl)
    (try simp only [List.getElem_toArray, List.getElem_cons_succ, List.getElem_cons_zero])
    (try simp only [Act.put, List.setIfInBounds_toArray, List.set_cons_zero, List.set_cons_succ])
    refine wpTill_one (k := 23) (by kernel_rfl) rfl (fun K hK => ?_)
    (try simp only [List.getElem_toArray, List.getElem_cons_succ, List.getElem_cons_zero])
    go_simp
    refine hK.out _ _ (fun h => absurd (h.symm.trans (by kernel_rfl)) Bool.false_ne_true) ?_
    clear hK K
    (try simp only [Act.put, List.setIfInBounds_toArray, List.set_cons_zero, List.set_cons_succ])
    refine wpTill_pure (i := 24) (v := ?_) rfl (by kernel_rfl) (by kernel_rfl) (by kernel_rfl) (by kernel_rfl) (fun _ _ _ h => h) (Or.inl ⟨by rfl, ?_⟩) (fun h => absurd (h.symm.trans (by kernel_rfl)) Bool.false_ne_true) ?_
    rotate_left
    ·intro w hSw; clear hSw; go_simp; (try with_reducible rfl)
    (try simp only [List.getElem_toArray, List.getElem_cons_succ, List.getElem_cons_zero])
    (try simp only [Act.put, List.setIfInBounds_toArray, List.set_cons_zero, List.set_cons_succ])
    refine wpTill_one (k := 25) (by kernel_rfl) rfl (fun K hK => ?_)
    (try simp only [List.getElem_toArray, List.getElem_cons_succ, List.getElem_cons_zero])
    go_simp
    refine hK.out _ _ (fun h => absurd (h.symm.trans (by kernel_rfl)) Bool.false_ne_true) ?_
    clear hK K
    (try simp only [Act.put, List.setIfInBounds_toArray, List.set_cons_zero, List.set_cons_succ])
    refine wpTill_done (by kernel_rfl) ?_ _
    clear hC2 cx2 cy2 fx2 cy3 fy3
    go_wp2
    obtain ⟨ex', ey', z1, z2, z3, z4, z5, z6, D'⟩ := unhide NEW
    exact ⟨⟨i + 1, ex', ey', z1, z2, z3, z4, z5, z6, by go_num, by omega, D'⟩, by simp [intOf]; omega⟩
   ·obtain rfl : i = mb := by omega
    have hAB := unhide HE0 trivial
    have hL := unhide HL
    have F := D.fin (mx := ma) (my := i) (by omega) (by omega) (by omega) (by omega) (unhide HT).va (unhide HT).vb hAB.1 hAB.2 hL.1 hL.2.1 hL.2.2.1 hL.2.2.2
    have rX := D.ox.rowIs (c := ca) (by rw [D.sx]; omega) (by omega)
    have rY := D.oy.rowIs (c := cb) (by rw [D.sy]; omega) (by omega)
    rw [D.sx] at rX
    rw [D.sy] at rY
    have rX' := row_less (m := i) rX (by omega)
    have rY' := row_less (m := i) rY (by omega)
    have HT1 := hide (trimmed_any _ i _ _ wr rX' (fun j hj => D.wx j (by omega)))
    have HT2 := hide (trimmed_any _ i _ _ wr rY' (fun j hj => D.wy j (by omega)))
    rw [F.1] at HT1
    rw [F.2] at HT2
    have FIN := hide (fun (m1 m2 : Nat) h1 h2 l1 l2 => TwoAt.of_done (m1 := m1) (m2 := m2) (cx := ca) (cy := cb) D (by have := (unhide HT).ne; omega) (by have := (unhide HT).ba; have := (unhide HT).bb; omega) (by have := (unhide HT).ba; have := (unhide HT).bb; omega) (by omega) (by omega) (by omega) (by omega) (by omega) (by omega) F.1 F.2 h1 h2 l1 l2)
    have BL := hide D.bl
    have SZ := hide (show base ≤ wr.heap.size by have := unhide HSW; rw [D.sz]; omega)
    clear D HD F rX rY rX' rY' hL hAB HT HL
    go_wp2_with fail
    refine (unhide HT1).mono ?_
    rintro e w'' ⟨m1, rfl, hm1, hl1, hw''⟩
    obtain rfl := hw''.symm
    have HL1 := hide hl1
    clear hl1 HT1
    go_wp2_with fail
    refine (unhide HT2).mono ?_
    rintro e w'' ⟨m2, rfl, hm2, hl2, hw''⟩
    obtain rfl := hw''.symm
    have RES := hide (unhide FIN m1 m2 hm1 hm2 (unhide HL1) hl2)
    clear hl2 HT2 FIN
    go_wp2
    go_ret2
    exact ⟨_, _, rfl, unhide RES, unhide BL, unhide SZ⟩
 ·skip
  obtain ⟨W, hW⟩ : ∃ W, ((w.alloc (.cells #[.int .u64 p, .int .u64 q, .int .u64 r, .int .u64 s, .bool true] 214)).alloc (.cells #[.int .u64 p, .int .u64 q, .int .u64 0, .int .u64 0, .int .u64 0] 236)).alloc (.cells #[.int .u64 r, .int .u64 s, .int .u64 0, .int .u64 0, .int .u64 0] 236) = W := ⟨_, rfl⟩
  obtain ⟨mm1, mm2, bW, sW⟩ := made_three w _ p q r s hW
  have D0 := DoneAt.start (gx := gb) (gy := ga) (dx := db) (dy := da) (base := base) ((unhide HT).ob.below bW hgb) ((unhide HT).oa.below bW hga) (unhide HT).wb (unhide HT).wa mm1 mm2 (bW.mono hbase)
  have HD0 := hide D0
  have HWE := hide hW
  have HSW := hide sW
  clear D0 mm1 mm2 bW sW hW
  go_enter Tryz.func166, Tryz.ntmps166
  go_wp2_with fail
  rw [unhide HWE]
  go_loopw [31] (fun vi wr => ∃ (i : Nat) (ex ey : Array Int) (ca1 ch1 bo1 ca2 ch2 bo2 : Int), vi = .int .i64 i ∧ i ≤ mb ∧ DoneAt base W.heap.size w wr gb ga (w.heap.size + 1) (w.heap.size + 1 + 1) i db da p q r s ex ey ca1 ch1 bo1 ca2 ch2 bo2) (fun vi _ => mb - (intOf vi).toNat)
  case atStart => exact ⟨0, _, _, _, _, _, _, _, _, rfl, Nat.zero_le _, unhide HD0⟩
  case round =>
   obtain ⟨i, ex, ey, ca1, ch1, bo1, ca2, ch2, bo2, rfl, hi, D⟩ := hrel
   have HD := hide D
   by_cases hlt : i < mb
   ·obtain ⟨x, hx⟩ : ∃ x, db[i]! = x := ⟨_, rfl⟩
    obtain ⟨y, hy⟩ : ∃ y, da[i]! = y := ⟨_, rfl⟩
    have wxi := D.wx i (by omega)
    have wyi := D.wy i (by omega)
    have hcx := (D.ox.holds i (by rw [D.sx]; omega)).1
    have hcy := (D.oy.holds i (by rw [D.sy]; omega)).1
    rw [D.rx i (Nat.le_refl _), hx] at hcx wxi
    rw [D.ry i (Nat.le_refl _), hy] at hcy wyi
    rw [Nat.zero_add] at hcx hcy
    have HN1 := hide (fun (w' : World) (hm : MixIs w' (w.heap.size + 1) p q ca1 ch1 bo1) => next_any (w.heap.size + 1) p q ca1 ch1 bo1 x y w' hm (unhide HP) (unhide HQ) D.b1.1 D.b1.2.1 D.b1.2.2.1 D.b1.2.2.2 wxi wyi)
    have HN2 := hide (fun (w' : World) (hm : MixIs w' (w.heap.size + 1 + 1) r s ca2 ch2 bo2) => next_any (w.heap.size + 1 + 1) r s ca2 ch2 bo2 y x w' hm (unhide HR) (unhide HS) D.b2.1 D.b2.2.1 D.b2.2.2.1 D.b2.2.2.2 wyi wxi)
    have hne := (unhide HT).ne
    have STEP := hide (fun (w1 w2 : World) M1 A1 M2 A2 => D.step (w1 := w1) (w2 := w2) (unhide HP) (unhide HQ) (unhide HR) (unhide HS) (by omega) (by omega) (by omega) (by omega) (by omega) (by omega) (by omega) (by omega) (by have := (unhide HT).ba; have := (unhide HT).bb; omega) (by have := (unhide HT).ba; have := (unhide HT).bb; omega) (by omega) (by omega) M1 A1 M2 A2)
    rw [hx, hy] at STEP
    have hi0 : (0 : Int) ≤ (i : Int) := by omega
    have hi1 : (i : Int) < (mb : Int) := by omega
    have hit : ((i : Int)).toNat = i := by omega
    have hm1 := D.m1
    have hm2 := D.m2
    have HX := hide hx
    have HY := hide hy
    have HM1 := hide hm1
    have HM2 := hide hm2
    clear D hm1 hm2 hx hy wxi wyi
    obtain ⟨V1, hV1⟩ : ∃ v, ((p * x + ca1) % 18446744073709551616 - (q * y + ch1) % 18446744073709551616 - bo1) % 18446744073709551616 = v := ⟨_, rfl⟩
    obtain ⟨V2, hV2⟩ : ∃ v, ((r * y + ca2) % 18446744073709551616 - (s * x + ch2) % 18446744073709551616 - bo2) % 18446744073709551616 = v := ⟨_, rfl⟩
    rw [hV1] at HN1 STEP
    rw [hV2] at HN2 STEP
    clear hV1 hV2
    go_wp2_with fail
    refine wp_region_till (fun w' => w'.cell? ⟨gb, i, none⟩ = some (.int .u64 x) ∧ w'.cell? ⟨ga, i, none⟩ = some (.int .u64 y)) 23 (by kernel_rfl) ?_
    have hC0 : (fun w' : World => w'.cell? ⟨gb, i, none⟩ = some (.int .u64 x) ∧ w'.cell? ⟨ga, i, none⟩ = some (.int .u64 y)) wr.drew := ⟨hcx, hcy⟩
    refine wpTill_pure (i := 0) (v := ?_) rfl (by kernel_rfl) (by kernel_rfl) (by kernel_rfl) (by kernel_rfl) (fun _ _ _ h => h) (Or.inl ⟨by rfl, ?_⟩) (fun _ => hC0) ?_
    rotate_left
    ·intro w hSw; clear hSw; go_simp; (try with_reducible rfl)
    (try simp only [List.getElem_toArray, List.getElem_cons_zero])
    (try simp only [Act.put, List.setIfInBounds_toArray, List.set_cons_zero, List.set_cons_succ])
    refine wpTill_pure (i := 1) (v := ?_) rfl (by kernel_rfl) (by kernel_rfl) (by kernel_rfl) (by kernel_rfl) (fun _ _ _ h => h) (Or.inl ⟨by rfl, ?_⟩) (fun _ => hC0) ?_
    rotate_left
    ·intro w hSw; clear hSw; go_simp; (try with_reducible rfl)
    (try simp only [List.getElem_toArray, List.getElem_cons_succ, List.getElem_cons_zero])
    (try simp only [Act.put, List.setIfInBounds_toArray, List.set_cons_zero, List.set_cons_succ])
    refine wpTill_pure (i := 2) (v := ?_) rfl (by kernel_rfl) (by kernel_rfl) (by kernel_rfl) (by kernel_rfl) (fun _ _ _ h => h) (Or.inl ⟨by rfl, ?_⟩) (fun _ => hC0) ?_
    rotate_left
    ·intro w hSw; clear hSw; go_simp; (try with_reducible rfl)
    (try simp only [List.getElem_toArray, List.getElem_cons_succ, List.getElem_cons_zero])
    (try simp only [Act.put, List.setIfInBounds_toArray, List.set_cons_zero, List.set_cons_succ])
    refine wpTill_pure (i := 3) (v := ?_) rfl (by kernel_rfl) (by kernel_rfl) (by kernel_rfl) (by kernel_rfl) (fun _ _ _ h => h) (Or.inl ⟨by rfl, ?_⟩) (fun _ => hC0) ?_
    rotate_left
    ·intro w hSw; clear hSw; go_simp; (try with_reducible rfl)
    (try simp only [List.getElem_toArray, List.getElem_cons_succ, List.getElem_cons_zero])
    (try simp only [Act.put, List.setIfInBounds_toArray, List.set_cons_zero, List.set_cons_succ])
    refine wpTill_pure (i := 4) (v := ?_) rfl (by kernel_rfl) (by kernel_rfl) (by kernel_rfl) (by kernel_rfl) (fun _ _ _ h => h) (Or.inl ⟨by rfl, ?_⟩) (fun _ => hC0) ?_
    rotate_left
    ·intro w hSw; clear hSw; go_simp; (try with_reducible rfl)
    (try simp only [List.getElem_toArray, List.getElem_cons_succ, List.getElem_cons_zero])
    (try simp only [Act.put, List.setIfInBounds_toArray, List.set_cons_zero, List.set_cons_succ])
    refine wpTill_pure (i := 5) (v := ?_) rfl (by kernel_rfl) (by kernel_rfl) (by kernel_rfl) (by kernel_rfl) (fun _ _ _ h => h) (Or.inl ⟨by rfl, ?_⟩) (fun _ => hC0) ?_
    rotate_left
    ·intro w hSw; clear hSw; go_simp; (try with_reducible rfl)
    (try simp only [List.getElem_toArray, List.getElem_cons_succ, List.getElem_cons_zero])
    (try simp only [Act.put, List.setIfInBounds_toArray, List.set_cons_zero, List.set_cons_succ])
    refine wpTill_pure (i := 6) (v := ?_) rfl (by kernel_rfl) (by kernel_rfl) (by kernel_rfl) (by kernel_rfl) (fun _ _ _ h => h) (Or.inl ⟨by rfl, ?_⟩) (fun _ => hC0) ?_
    rotate_left
    ·intro w hSw; clear hSw; go_simp; (try with_reducible rfl)
    (try simp only [List.getElem_toArray, List.getElem_cons_succ, List.getElem_cons_zero])
    (try simp only [Act.put, List.setIfInBounds_toArray, List.set_cons_zero, List.set_cons_succ])
    refine wpTill_take (i := 7) (v := ?_) rfl (by kernel_rfl) (by kernel_rfl) (by kernel_rfl) (by kernel_rfl) (by kernel_rfl) (by kernel_rfl) (fun _ _ _ h => h) (Or.inl ⟨by rfl, ?_⟩) hC0 ?_
    rotate_left
    ·intro w hSw; (try dsimp only at hSw); obtain ⟨hSx, hSy⟩ := hSw; go_simp; (try with_reducible rfl)
    (try simp only [List.getElem_toArray, List.getElem_cons_succ, List.getElem_cons_zero])
    (try simp only [Act.put, List.setIfInBounds_toArray, List.set_cons_zero, List.set_cons_succ])
    refine wpTill_pure (i := 8) (v := ?_) rfl (by kernel_rfl) (by kernel_rfl) (by kernel_rfl) (by kernel_rfl) (fun _ _ _ h => h) (Or.inl ⟨by rfl, ?_⟩) (fun _ => hC0) ?_
    rotate_left
    ·intro w hSw; clear hSw; go_simp; (try with_reducible rfl)
    (try simp only [List.getElem_toArray, List.getElem_cons_succ, List.getElem_cons_zero])
    (try simp only [Act.put, List.setIfInBounds_toArray, List.set_cons_zero, List.set_cons_succ])
    refine wpTill_pure (i := 9) (v := ?_) rfl (by kernel_rfl) (by kernel_rfl) (by kernel_rfl) (by kernel_rfl) (fun _ _ _ h => h) (Or.inl ⟨by rfl, ?_⟩) (fun _ => hC0) ?_
    rotate_left
    ·intro w hSw; clear hSw; go_simp; (try with_reducible rfl)
    (try simp only [List.getElem_toArray, List.getElem_cons_succ, List.getElem_cons_zero])
    (try simp only [Act.put, List.setIfInBounds_toArray, List.set_cons_zero, List.set_cons_succ])
    refine wpTill_pure (i := 10) (v := ?_) rfl (by kernel_rfl) (by kernel_rfl) (by kernel_rfl) (by kernel_rfl) (fun _ _ _ h => h) (Or.inl ⟨by rfl, ?_⟩) (fun _ => hC0) ?_
    rotate_left
    ·intro w hSw; clear hSw; go_simp; (try with_reducible rfl)
    (try simp only [List.getElem_toArray, List.getElem_cons_succ, List.getElem_cons_zero])
    (try simp only [Act.put, List.setIfInBounds_toArray, List.set_cons_zero, List.set_cons_succ])
    refine wpTill_take (i := 11) (v := ?_) rfl (by kernel_rfl) (by kernel_rfl) (by kernel_rfl) (by kernel_rfl) (by kernel_rfl) (by kernel_rfl) (fun _ _ _ h => h) (Or.inl ⟨by rfl, ?_⟩) hC0 ?_
    rotate_left
    ·intro w hSw; (try dsimp only at hSw); obtain ⟨hSx, hSy⟩ := hSw; go_simp; (try with_reducible rfl)
    (try simp only [List.getElem_toArray, List.getElem_cons_succ, List.getElem_cons_zero])
    (try simp only [Act.put, List.setIfInBounds_toArray, List.set_cons_zero, List.set_cons_succ])
    refine wpTill_pure (i := 13) (v := ?_) rfl (by kernel_rfl) (by kernel_rfl) (by kernel_rfl) (by kernel_rfl) (fun _ _ _ h => h) (Or.inl ⟨by rfl, ?_⟩) (fun _ => hC0) ?_
    rotate_left
    ·intro w hSw; clear hSw; go_simp; (try with_reducible rfl)
    (try simp only [List.getElem_toArray, List.getElem_cons_succ, List.getElem_cons_zero])
    (try simp only [Act.put, List.setIfInBounds_toArray, List.set_cons_zero, List.set_cons_succ])
    refine wpTill_pure (i := 14) (v := ?_) rfl (by kernel_rfl) (by kernel_rfl) (by kernel_rfl) (by kernel_rfl) (fun _ _ _ h => h) (Or.inl ⟨by rfl, ?_⟩) (fun _ => hC0) ?_
    rotate_left
    ·intro w hSw; clear hSw; go_simp; (try with_reducible rfl)
    (try simp only [List.getElem_toArray, List.getElem_cons_succ, List.getElem_cons_zero])
    (try simp only [Act.put, List.setIfInBounds_toArray, List.set_cons_zero, List.set_cons_succ])
    refine wpTill_pure (i := 15) (v := ?_) rfl (by kernel_rfl) (by kernel_rfl) (by kernel_rfl) (by kernel_rfl) (fun _ _ _ h => h) (Or.inl ⟨by rfl, ?_⟩) (fun _ => hC0) ?_
    rotate_left
    ·intro w hSw; clear hSw; go_simp; (try with_reducible rfl)
    (try simp only [List.getElem_toArray, List.getElem_cons_succ, List.getElem_cons_zero])
    (try simp only [Act.put, List.setIfInBounds_toArray, List.set_cons_zero, List.set_cons_succ])
    refine wpTill_take (i := 16) (v := ?_) rfl (by kernel_rfl) (by kernel_rfl) (by kernel_rfl) (by kernel_rfl) (by kernel_rfl) (by kernel_rfl) (fun _ _ _ h => h) (Or.inl ⟨by rfl, ?_⟩) hC0 ?_
    rotate_left
    ·intro w hSw; (try dsimp only at hSw); obtain ⟨hSx, hSy⟩ := hSw; go_simp; (try with_reducible rfl)
    (try simp only [List.getElem_toArray, List.getElem_cons_succ, List.getElem_cons_zero])
    (try simp only [Act.put, List.setIfInBounds_toArray, List.set_cons_zero, List.set_cons_succ])
    refine wpTill_pure (i := 17) (v := ?_) rfl (by kernel_rfl) (by kernel_rfl) (by kernel_rfl) (by kernel_rfl) (fun _ _ _ h => h) (Or.inl ⟨by rfl, ?_⟩) (fun _ => hC0) ?_
    rotate_left
    ·intro w hSw; clear hSw; go_simp; (try with_reducible rfl)
    (try simp only [List.getElem_toArray, List.getElem_cons_succ, List.getElem_cons_zero])
    (try simp only [Act.put, List.setIfInBounds_toArray, List.set_cons_zero, List.set_cons_succ])
    refine wpTill_pure (i := 18) (v := ?_) rfl (by kernel_rfl) (by kernel_rfl) (by kernel_rfl) (by kernel_rfl) (fun _ _ _ h => h) (Or.inl ⟨by rfl, ?_⟩) (fun _ => hC0) ?_
    rotate_left
    ·intro w hSw; clear hSw; go_simp; (try with_reducible rfl)
    (try simp only [List.getElem_toArray, List.getElem_cons_succ, List.getElem_cons_zero])
    (try simp only [Act.put, List.setIfInBounds_toArray, List.set_cons_zero, List.set_cons_succ])
    refine wpTill_pure (i := 19) (v := ?_) rfl (by kernel_rfl) (by kernel_rfl) (by kernel_rfl) (by kernel_rfl) (fun _ _ _ h => h) (Or.inl ⟨by rfl, ?_⟩) (fun _ => hC0) ?_
    rotate_left
    ·intro w hSw; clear hSw; go_simp; (try with_reducible rfl)
    (try simp only [List.getElem_toArray, List.getElem_cons_succ, List.getElem_cons_zero])
    (try simp only [Act.put, List.setIfInBounds_toArray, List.set_cons_zero, List.set_cons_succ])
    refine wpTill_take (i := 20) (v := ?_) rfl (by kernel_rfl) (by kernel_rfl) (by kernel_rfl) (by kernel_rfl) (by kernel_rfl) (by kernel_rfl) (fun _ _ _ h => h) (Or.inl ⟨by rfl, ?_⟩) hC0 ?_
    rotate_left
    ·intro w hSw; (try dsimp only at hSw); obtain ⟨hSx, hSy⟩ := hSw; go_simp; (try with_reducible rfl)
    (try simp only [List.getElem_toArray, List.getElem_cons_succ, List.getElem_cons_zero])
    (try simp only [Act.put, List.setIfInBounds_toArray, List.set_cons_zero, List.set_cons_succ])
    refine wpTill_one (k := 12) (by kernel_rfl) rfl (fun K hK => ?_)
    (try simp only [List.getElem_toArray, List.getElem_cons_succ, List.getElem_cons_zero])
    go_simp
    refine (unhide HN1 _ (unhide HM1).drew).mono ?_
    rintro e w1 ⟨rfl, M1, A1⟩
    have A1' : Apart (w.heap.size + 1) wr w1 := ⟨A1.os, A1.tape, A1.output, A1.size, A1.block⟩
    have ox1 := A1'.head (unhide HD).ox (by omega)
    have oy1 := A1'.head (unhide HD).oy (by omega)
    have m21 := A1'.mix (unhide HM2) (by omega)
    have cx1 := (ox1.holds i (by rw [(unhide HD).sx]; omega)).1
    have cy1 := (oy1.holds i (by rw [(unhide HD).sy]; omega)).1
    rw [(unhide HD).rx i (Nat.le_refl _), unhide HX, Nat.zero_add] at cx1
    rw [(unhide HD).ry i (Nat.le_refl _), unhide HY, Nat.zero_add] at cy1
    have hC1 : (fun w' : World => w'.cell? ⟨gb, i, none⟩ = some (.int .u64 x) ∧ w'.cell? ⟨ga, i, none⟩ = some (.int .u64 y)) w1 := ⟨cx1, cy1⟩
    refine hK.out _ _ (fun _ => hC1) ?_
    clear hK K
    (try simp only [Act.put, List.setIfInBounds_toArray, List.set_cons_zero, List.set_cons_succ])
    refine wpTill_one (k := 21) (by kernel_rfl) rfl (fun K hK => ?_)
    (try simp only [List.getElem_toArray, List.getElem_cons_succ, List.getElem_cons_zero])
    go_simp
    refine (unhide HN2 _ m21).mono ?_
    rintro e w2 ⟨rfl, M2, A2⟩
    have ox2 := A2.head ox1 (by omega)
    have oy2 := A2.head oy1 (by omega)
    have cx2 := (ox2.holds i (by rw [(unhide HD).sx]; omega)).1
    have cy2 := (oy2.holds i (by rw [(unhide HD).sy]; omega)).1
    rw [(unhide HD).rx i (Nat.le_refl _), unhide HX, Nat.zero_add] at cx2
    rw [(unhide HD).ry i (Nat.le_refl _), unhide HY, Nat.zero_add] at cy2
    have hC2 : (fun w' : World => w'.cell? ⟨gb, i, none⟩ = some (.int .u64 x) ∧ w'.cell? ⟨ga, i, none⟩ = some (.int .u64 y)) w2 := ⟨cx2, cy2⟩
    have fx2 := (ox2.holds i (by rw [(unhide HD).sx]; omega)).2
    rw [Nat.zero_add] at fx2
    have oy3 := head_set_other (g' := gb) (i := i) (x := .int .u64 V1) oy2 (by omega)
    have cy3 := (oy3.holds i (by rw [(unhide HD).sy]; omega)).1
    have fy3 := (oy3.holds i (by rw [(unhide HD).sy]; omega)).2
    rw [Nat.zero_add] at cy3 fy3
    have NEW := hide (unhide STEP w1 w2 M1 A1' M2 A2)
    clear M1 M2 A1 A1' A2 ox1 oy1 ox2 oy2 oy3 m21 cx1 cy1 hC0 hC1 STEP HN1 HN2
    refine hK.out _ _ (fun _ => hC2) ?_
    clear hK K
    (try simp only [Act.put, List.setIfInBounds_toArray, List.set_cons_zero, List.set_cons_succ])
    refine wpTill_pure (i := 22) (v := ?_) rfl (by kernel_rfl) (by kernel_rfl) (by kernel_rfl) (by kernel_rfl) (fun _ _ _ h => h) (Or.inl ⟨by rfl, ?_⟩) (fun _ => hC2) ?_
    rotate_left
    ·intro w hSw; clear hSw; go_simp; (try with_reducible rfl)
    (try simp only [List.getElem_toArray, List.getElem_cons_succ, List.getElem_cons_zero])
    (try simp only [Act.put, List.setIfInBounds_toArray, List.set_cons_zero, List.set_cons_succ])
    refine wpTill_one (k := 23) (by kernel_rfl) rfl (fun K hK => ?_)
    (try simp only [List.getElem_toArray, List.getElem_cons_succ, List.getElem_cons_zero])
    go_simp
    refine hK.out _ _ (fun h => absurd (h.symm.trans (by kernel_rfl)) Bool.false_ne_true) ?_
    clear hK K
    (try simp only [Act.put, List.setIfInBounds_toArray, List.set_cons_zero, List.set_cons_succ])
    refine wpTill_pure (i := 24) (v := ?_) rfl (by kernel_rfl) (by kernel_rfl) (by kernel_rfl) (by kernel_rfl) (fun _ _ _ h => h) (Or.inl ⟨by rfl, ?_⟩) (fun h => absurd (h.symm.trans (by kernel_rfl)) Bool.false_ne_true) ?_
    rotate_left
    ·intro w hSw; clear hSw; go_simp; (try with_reducible rfl)
    (try simp only [List.getElem_toArray, List.getElem_cons_succ, List.getElem_cons_zero])
    (try simp only [Act.put, List.setIfInBounds_toArray, List.set_cons_zero, List.set_cons_succ])
    refine wpTill_one (k := 25) (by kernel_rfl) rfl (fun K hK => ?_)
    (try simp only [List.getElem_toArray, List.getElem_cons_succ, List.getElem_cons_zero])
    go_simp
    refine hK.out _ _ (fun h => absurd (h.symm.trans (by kernel_rfl)) Bool.false_ne_true) ?_
    clear hK K
    (try simp only [Act.put, List.setIfInBounds_toArray, List.set_cons_zero, List.set_cons_succ])
    refine wpTill_done (by kernel_rfl) ?_ _
    clear hC2 cx2 cy2 fx2 cy3 fy3
    go_wp2
    obtain ⟨ex', ey', z1, z2, z3, z4, z5, z6, D'⟩ := unhide NEW
    exact ⟨⟨i + 1, ex', ey', z1, z2, z3, z4, z5, z6, by go_num, by omega, D'⟩, by simp [intOf]; omega⟩
   ·obtain rfl : i = mb := by omega
    have hAB := unhide HE1 trivial
    have hL := unhide HL
    have F := D.fin (mx := i) (my := ma) (by omega) (by omega) (by omega) (by omega) (unhide HT).vb (unhide HT).va hAB.1 hAB.2 hL.1 hL.2.1 hL.2.2.1 hL.2.2.2
    have rX := D.ox.rowIs (c := cb) (by rw [D.sx]; omega) (by omega)
    have rY := D.oy.rowIs (c := ca) (by rw [D.sy]; omega) (by omega)
    rw [D.sx] at rX
    rw [D.sy] at rY
    have rX' := row_less (m := i) rX (by omega)
    have rY' := row_less (m := i) rY (by omega)
    have HT1 := hide (trimmed_any _ i _ _ wr rX' (fun j hj => D.wx j (by omega)))
    have HT2 := hide (trimmed_any _ i _ _ wr rY' (fun j hj => D.wy j (by omega)))
    rw [F.1] at HT1
    rw [F.2] at HT2
    have FIN := hide (fun (m1 m2 : Nat) h1 h2 l1 l2 => TwoAt.of_done (m1 := m1) (m2 := m2) (cx := cb) (cy := ca) D (by have := (unhide HT).ne; omega) (by have := (unhide HT).ba; have := (unhide HT).bb; omega) (by have := (unhide HT).ba; have := (unhide HT).bb; omega) (by omega) (by omega) (by omega) (by omega) (by omega) (by omega) F.1 F.2 h1 h2 l1 l2)
    have BL := hide D.bl
    have SZ := hide (show base ≤ wr.heap.size by have := unhide HSW; rw [D.sz]; omega)
    clear D HD F rX rY rX' rY' hL hAB HT HL
    go_wp2_with fail
    refine (unhide HT1).mono ?_
    rintro e w'' ⟨m1, rfl, hm1, hl1, hw''⟩
    obtain rfl := hw''.symm
    have HL1 := hide hl1
    clear hl1 HT1
    go_wp2_with fail
    refine (unhide HT2).mono ?_
    rintro e w'' ⟨m2, rfl, hm2, hl2, hw''⟩
    obtain rfl := hw''.symm
    have RES := hide (unhide FIN m1 m2 hm1 hm2 (unhide HL1) hl2)
    clear hl2 HT2 FIN
    go_wp2
    go_ret2
    exact ⟨_, _, rfl, unhide RES, unhide BL, unhide SZ⟩
end Go.Proofs.YtcelbgleajpenaaGreatDoor
