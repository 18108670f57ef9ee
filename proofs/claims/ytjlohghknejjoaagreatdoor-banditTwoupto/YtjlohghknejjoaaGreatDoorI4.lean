/- Models: rows of numbers; two operations in any order; the mean of values; the first that is best. -/
import Derived.Test.YtjlohghknejjoaaGreatDoorIB
namespace Go.Proofs.YtjlohghknejjoaaGreatDoor
open Go.RowKit Go.Sort Go.Shelf

/-- The cells of a row of numbers. -/
def lrow (lf : Nat → Int) (n : Nat) : List Value := (List.range n).map fun j => .int .i64 (lf j)
theorem lrow_get (lf : Nat → Int) {n j : Nat} (h : j < n) : (lrow lf n)[j]? = some (.int .i64 (lf j)) := by simp [lrow, h]
def updI (f : Nat → Int) (j : Nat) (v : Int) : Nat → Int := fun i => if i = j then v else f i
theorem lrow_set (lf : Nat → Int) {n j : Nat} (v : Int) : (lrow lf n).set j (.int .i64 v) = lrow (updI lf j v) n := by
  apply List.ext_getElem?
  intro i
  unfold lrow updI
  rw [List.getElem?_set]
  by_cases h : j = i
  · subst h
    by_cases hj : j < n <;> simp [hj]
  · by_cases hi : i < n <;> simp [h, hi, Ne.symm h]
theorem lrow_congr {f g : Nat → Int} {n : Nat} (h : ∀ j, j < n → f j = g j) : lrow f n = lrow g n := by
  unfold lrow
  exact List.map_congr_left fun j hj => by rw [h j (List.mem_range.1 hj)]

/-- Block G is the row. -/
def OwnI (w : World) (G n : Nat) (lf : Nat → Int) : Prop := w.heap[G]? = some (.cells (lrow lf n).toArray 3)
theorem OwnI.lt {w : World} {G n : Nat} {lf : Nat → Int} (h : OwnI w G n lf) : G < w.heap.size := (Array.getElem?_eq_some_iff.1 h).1
theorem OwnI.keep {w w' : World} {G n : Nat} {lf : Nat → Int} (h : OwnI w G n lf) (hb : Below w.heap.size w w') : OwnI w' G n lf := by
  unfold OwnI; rw [hb.block G h.lt]; exact h
theorem OwnI.cell {w : World} {G n : Nat} {lf : Nat → Int} (h : OwnI w G n lf) {j : Nat} (hj : j < n) : w.cell? ⟨G, j, none⟩ = some (.int .i64 (lf j)) := by
  unfold OwnI at h
  simp only [World.cell?, h]
  have := lrow_get lf hj
  simpa using this
theorem OwnI.free {w : World} {G n : Nat} {lf : Nat → Int} (h : OwnI w G n lf) (j : Nat) : w.frozen? ⟨G, j, none⟩ = false := by
  unfold OwnI at h; simp [World.frozen?, h]
theorem OwnI.set {w : World} {G n : Nat} {lf : Nat → Int} (h : OwnI w G n lf) (j : Nat) (v : Int) : OwnI (w.setCell ⟨G, j, none⟩ (.int .i64 v)) G n (updI lf j v) := by
  unfold OwnI at h ⊢
  rw [setCell_eq]
  simp only [mapBlock, Array.getElem?_modify, h, if_true, Option.map_some, onCells]
  rw [← lrow_set]
  simp
theorem OwnI.congr {w : World} {G n : Nat} {f g : Nat → Int} (h : OwnI w G n f) (e : ∀ j, j < n → f j = g j) : OwnI w G n g := by
  unfold OwnI at h ⊢; rw [← lrow_congr e]; exact h

theorem Tryz.infoI : (Tryz.prog.info? 3).map (fun i => (i.zero, i.size, i.bytes)) = some (some (.int .i64 0), 1, 8) := by kernel_rfl
theorem make_ints (k : Nat) (h1 : k ≤ 1099511627776) (w : World) :
    (Instr.makeSlice 72 (.int .i64 (k : Int)) (.int .i64 (k : Int))).run Tryz.prog w = .ok (.slice (some ⟨w.heap.size, 0, none⟩) k k) (w.alloc (.cells (lrow (fun _ => 0) k).toArray 3)) := by
  obtain ⟨i, hi, hz0, hz1, hz2⟩ := info_parts Tryz.infoI
  have e : madeCells (Value.int .i64 0).cells ((k : Int).toNat * i.size) = (lrow (fun _ => 0) k).toArray := by
    rw [hz1]
    apply Array.ext
    · simp [madeCells, lrow]
    · intro j h1 h2
      simp [madeCells, lrow, Value.cells, Nat.mod_one]
  rw [run_make w 72 3 i (.int .i64 0) Tryz.underlying72 hi hz0 .i64 .i64 k k (by omega) (Int.le_refl _) (by rw [hz2]; omega) (by omega), e]
  simp
theorem make_own (w : World) (k : Nat) : OwnI (w.alloc (.cells (lrow (fun _ => 0) k).toArray 3)) w.heap.size k (fun _ => 0) := heap_alloc_new w _
theorem lrow_noWord {lf : Nat → Int} {n : Nat} {T : TypeId} {fr : Nat × Nat} : NoWord (.cells (lrow lf n).toArray T fr) := by
  intro cs T' fr' e j x
  injection e with e
  subst e
  intro hx
  have hx' : (lrow lf n)[j]? = some (.int .u64 x) := by simpa using hx
  unfold lrow at hx'
  rw [List.getElem?_map] at hx'
  cases h : (List.range n)[j]? with
  | none => rw [h] at hx'; cases hx'
  | some k => rw [h] at hx'; cases hx'
theorem RatIs.ints {w : World} {g n j : Nat} {x : Int} {lf : Nat → Int} {v : Value} {q : Rat} (h : RatIs w v q) (hg : OwnI w g n lf) : RatIs (w.setCell ⟨g, j, none⟩ (.int .i64 x)) v q :=
  h.other hg lrow_noWord (by simp [World.setCell]) (fun k hk => Below.heap_setCell _ _ _ _ hk)
theorem SumsAt.ints {w wr : World} {g n j G : Nat} {x : Int} {lf : Nat → Int} {us : List Tri} {qs : List Rat} (h : SumsAt w wr G us qs) (hg : OwnI wr g n lf) (hne : G ≠ g) (hge : w.heap.size ≤ g) : SumsAt w (wr.setCell ⟨g, j, none⟩ (.int .i64 x)) G us qs :=
  ⟨by rw [Below.heap_setCell _ _ _ _ hne]; exact h.row, h.len, fun j hj => (h.rat j hj).ints hg, h.bl.setCell hge _, h.gl⟩

theorem cell_other {w : World} {a b : Addr} {v : Value} (h : a.block ≠ b.block) : (w.setCell b v).cell? a = w.cell? a := by
  simp only [World.cell?]
  rw [Below.heap_setCell _ _ _ _ h]
/-- A row of numbers that is read. -/
def NRow (w : World) (v : Value) (n : Nat) (f : Nat → Int) : Prop := ∃ (a : Option Addr) (c : Nat), v = .slice a n c ∧ n ≤ c ∧ c ≤ 9223372036854775807 ∧ (0 < n → ∃ b o, a = some ⟨b, o, none⟩ ∧ b < w.heap.size ∧ ∀ j, j < n → w.cell? ⟨b, o + j, none⟩ = some (.int .i64 (f j)))
theorem OwnI.nrow {w : World} {G n : Nat} {f : Nat → Int} (h : OwnI w G n f) (hn : n ≤ 9223372036854775807) : NRow w (.slice (some ⟨G, 0, none⟩) n n) n f := ⟨_, _, rfl, Nat.le_refl _, hn, fun _ => ⟨G, 0, rfl, h.lt, fun j hj => by rw [Nat.zero_add]; exact h.cell hj⟩⟩
/-- A region walked by states: wherever it isn't at an end, each operation that is ready leads on. -/
theorem walk_any {P : Program} {ops : Array Oper} {Q : Exit → Act → World → Prop} {C : World → Prop} {md : Region.Mode} {S : Type} (mk : S → Array Bool) (fuel : S → Nat) (fin : S → Bool) (next : S → Nat → Option S) (I : S → Act → World → Prop)
    (hne : ∀ s, fin s = false → (Region.ready md ops (mk s)).isEmpty = false)
    (hck : ∀ s, fin s = false → (Region.ready md ops (mk s)).all (fun i => match next s i with | some s' => ((mk s).setIfInBounds i true == mk s') && (fuel s == fuel s' + 1) | none => false) = true)
    (hst : ∀ s i s', next s i = some s' → ∀ a w, I s a w → wpOp P ops Q i (fun a' w' => C w' ∧ I s' a' w') a w)
    (hf : ∀ s, fin s = true → ∀ a w, I s a w → wpHold P md ops Q C (fuel s) (mk s) a w) :
    ∀ n s, fuel s = n → ∀ a w, I s a w → wpHold P md ops Q C n (mk s) a w := by
  have hr : ∀ s, fin s = false → ∀ i ∈ Region.ready md ops (mk s), ∃ s', (mk s).setIfInBounds i true = mk s' ∧ fuel s = fuel s' + 1 ∧ ∀ a w, I s a w → wpOp P ops Q i (fun a' w' => C w' ∧ I s' a' w') a w := fun s e i hi => by
    have hk := List.all_eq_true.1 (hck s e) i hi
    cases en : next s i with
    | none => rw [en] at hk; cases hk
    | some s' =>
      rw [en] at hk
      simp only [Bool.and_eq_true, beq_iff_eq] at hk
      exact ⟨s', hk.1, hk.2, hst s i s' en⟩
  intro n
  induction n with
  | zero =>
    intro s hs a w h
    cases e : fin s with
    | true => rw [← hs]; exact hf s e a w h
    | false =>
      have hn := hne s e
      cases el : Region.ready md ops (mk s) with
      | nil => rw [el] at hn; cases hn
      | cons i r =>
        obtain ⟨s', _, h2, _⟩ := hr s e i (by rw [el]; exact List.mem_cons_self ..)
        omega
  | succ n ih =>
    intro s hs a w h
    cases e : fin s with
    | true => rw [← hs]; exact hf s e a w h
    | false =>
      have hn := hne s e
      refine ⟨fun e' => (by rw [e'] at hn; cases hn), fun i hi => ?_⟩
      obtain ⟨s', h1, h2, h3⟩ := hr s e i hi
      exact wpOp_mono (fun a' w' h' => ⟨h'.1, by rw [h1]; exact ih s' (by omega) a' w' h'.2⟩) (h3 a w h)

/-- Two operations in any order, and the assignment of the first. -/
def nx3 (i j k : Nat) (s : Bool × Bool × Bool) (m : Nat) : Option (Bool × Bool × Bool) := if m = i ∧ s.1 = false then some (true, s.2.1, s.2.2) else if m = j ∧ s.2.1 = false then some (s.1, true, s.2.2) else if m = k ∧ s.1 = true ∧ s.2.2 = false then some (s.1, s.2.1, true) else none
def fu3 (r : Nat) (s : Bool × Bool × Bool) : Nat := r + (if s.1 = true then 0 else 1) + (if s.2.1 = true then 0 else 1) + (if s.2.2 = true then 0 else 1)
theorem two_any {P : Program} {ops : Array Oper} {Q : Exit → Act → World → Prop} {C : World → Prop} {md : Region.Mode} (mk : Bool × Bool × Bool → Array Bool) (r i j k : Nat) (I : Bool → Bool → Bool → Act → World → Prop)
    (hne : ∀ s : Bool × Bool × Bool, (s.1 && s.2.1 && s.2.2) = false → (Region.ready md ops (mk s)).isEmpty = false)
    (hck : ∀ s : Bool × Bool × Bool, (s.1 && s.2.1 && s.2.2) = false → (Region.ready md ops (mk s)).all (fun m => match nx3 i j k s m with | some s' => ((mk s).setIfInBounds m true == mk s') && (fu3 r s == fu3 r s' + 1) | none => false) = true)
    (hA : ∀ y z a w, I false y z a w → wpOp P ops Q i (fun a' w' => C w' ∧ I true y z a' w') a w)
    (hB : ∀ x z a w, I x false z a w → wpOp P ops Q j (fun a' w' => C w' ∧ I x true z a' w') a w)
    (hK : ∀ y a w, I true y false a w → wpOp P ops Q k (fun a' w' => C w' ∧ I true y true a' w') a w)
    (hf : ∀ a w, I true true true a w → wpHold P md ops Q C r (mk (true, true, true)) a w) : ∀ a w, I false false false a w → wpHold P md ops Q C (r + 3) (mk (false, false, false)) a w := by
  intro a w h
  refine walk_any mk (fu3 r) (fun s => s.1 && s.2.1 && s.2.2) (nx3 i j k) (fun s a w => I s.1 s.2.1 s.2.2 a w) hne ?_ ?_ ?_ (r + 3) (false, false, false) rfl a w h
  · intro s hs
    have h1 := hck s hs
    rw [List.all_eq_true] at h1 ⊢
    intro m hm
    have h2 := h1 m hm
    cases e : nx3 i j k s m with
    | none => rw [e] at h2; cases h2
    | some s' => rw [e] at h2; exact h2
  · rintro ⟨x, y, z⟩ m s' hs a w h
    unfold nx3 at hs
    by_cases h1 : m = i ∧ x = false
    · obtain ⟨rfl, rfl⟩ := h1
      rw [if_pos ⟨rfl, rfl⟩] at hs
      injection hs with hs
      subst hs
      exact hA y z a w h
    · rw [if_neg h1] at hs
      by_cases h2 : m = j ∧ y = false
      · obtain ⟨rfl, rfl⟩ := h2
        rw [if_pos ⟨rfl, rfl⟩] at hs
        injection hs with hs
        subst hs
        exact hB x z a w h
      · rw [if_neg h2] at hs
        by_cases h3 : m = k ∧ x = true ∧ z = false
        · obtain ⟨rfl, rfl, rfl⟩ := h3
          rw [if_pos ⟨rfl, rfl, rfl⟩] at hs
          injection hs with hs
          subst hs
          exact hK y a w h
        · rw [if_neg h3] at hs; cases hs
  · rintro ⟨x, y, z⟩ hs a w h
    cases x with
    | false => cases hs
    | true => cases y with
      | false => cases hs
      | true => cases z with
        | false => cases hs
        | true => exact hf a w h
/-- What two operations yield, whichever was first. -/
structure TwoK (PA PB : World → Value → Prop) (PAB : World → Value → Value → Prop) (w0 : World) (x y : Bool) (W : World) (s1 s2 : Value) : Prop where
  bl : Below w0.heap.size w0 W
  ra : x = true → PA W s1
  rb : y = true → PB W s2
  rab : x = true → y = true → PAB W s1 s2

/-- A row of the call's own, where another row is written. -/
theorem SumsAt.apart' {w wr : World} {g g2 : Nat} {us us2 : List Tri} {qs : List Rat} {T : TypeId} (h : SumsAt w wr g us qs) (hg : wr.heap[g2]? = some (.cells (tcells us2).toArray T)) (hne : g ≠ g2) (hge : w.heap.size ≤ g2) (i0 i1 i2 : Nat) (x0 x1 x2 : Value) :
    SumsAt w (((wr.setCell ⟨g2, i0, none⟩ x0).setCell ⟨g2, i1, none⟩ x1).setCell ⟨g2, i2, none⟩ x2) g us qs :=
  ⟨by rw [Below.heap_setCell _ _ _ _ hne, Below.heap_setCell _ _ _ _ hne, Below.heap_setCell _ _ _ _ hne]; exact h.row, h.len, fun j hj => (h.rat j hj).rowed hg _ _ _ _ _ _, ((h.bl.setCell hge _).setCell hge _).setCell hge _, h.gl⟩
/-- The mean of values. -/
def mv (qs xs : List Rat) (k : Nat) : Rat := Bth.ps (fun t => qs[t]! * xs[t]!) k
theorem mv_RS {qs xs : List Rat} {J : Nat} (h : ∀ j, j < qs.length → RS qs[j]! 1) (hx : ∀ j, j < qs.length → RS xs[j]! J) (k : Nat) (hk : k ≤ qs.length) : RS (mv qs xs k) (k * (J + 2) + 1) := by
  induction k with
  | zero => exact RS.zero.mono (by omega)
  | succ k ih => exact RS.mono ((ih (by omega)).add ((h k (by omega)).mul (hx k (by omega)))) (by rw [Nat.succ_mul]; omega)

set_option maxHeartbeats 16000000 in
set_option maxRecDepth 100000 in
set_option linter.unusedSimpArgs false in
theorem cmean_any (v vx : Value) (qs xs : List Rat) (J : Nat) (w : World) (h : LawIs w v qs) (hvx : LawIs w vx xs) (hl : xs.length = qs.length) (hq : ∀ j, j < qs.length → RS qs[j]! 1) (hx : ∀ j, j < qs.length → RS xs[j]! J) (hJ : 2 * (qs.length * (J + 2) + 1) + 1 ≤ KK) :
    Calls Tryz.prog 81 #[v, vx] w fun e w' => ∃ v, e = .returned v ∧ RatIs w' v (mv qs xs qs.length) ∧ Below w.heap.size w w' := by
  obtain ⟨a, c, rfl, h1, h2, h3⟩ := h
  obtain ⟨ax, cx, rfl, x1, x2, x3⟩ := hvx
  rw [hl] at x1 x3 ⊢
  have H3 := hide h3
  have HX3 := hide x3
  have HQ := hide hq
  have HXX := hide hx
  clear h3 x3 hq hx hl
  have hb0 : Below (w.alloc (.cells #[.bool false, .slice none 0 0, .slice none 0 0] 37)).heap.size (w.alloc (.cells #[.bool false, .slice none 0 0, .slice none 0 0] 37)) (w.alloc (.cells #[.bool false, .slice none 0 0, .slice none 0 0] 37)) := Below.refl _ _
  have HS0 := hide (BoxAt.start (t := zTri) hb0 (rat_zero _))
  obtain ⟨G, hG⟩ : ∃ G, (w.alloc (.cells #[.bool false, .slice none 0 0, .slice none 0 0] 37)).heap.size = G := ⟨_, rfl⟩
  have HG := hide hG
  have hG1 : w.heap.size + 1 = G := by rw [← hG, alloc_heap, Array.size_push]
  rw [hG] at HS0
  clear hb0 hG
  go_enter Tryz.func81, Tryz.ntmps81
  go_wp2_with fail
  go_loopw [10] (fun vi wr => ∃ (i : Nat) (t : Tri), vi = .int .i64 i ∧ i ≤ qs.length ∧ BoxAt w wr w.heap.size G (mv qs xs i) t) (fun vi _ => qs.length - (intOf vi).toNat)
  case atStart => exact ⟨0, zTri, rfl, Nat.zero_le _, unhide HS0⟩
  case round =>
    obtain ⟨i, t, rfl, hi, T⟩ := hrel
    clear HS0
    by_cases hlt : i < qs.length
    · obtain ⟨bv, ov, rfl, hvlt, hcv⟩ := unhide HX3 (by omega)
      obtain ⟨xs_, xp1, xp2, xn1, xd1, xn2, xd2, xk0, xk1, xk2, xr⟩ := hcv i hlt
      obtain ⟨tv, rfl, rfl, rfl, rfl, rfl, rfl, rfl⟩ : ∃ t : Tri, xs_ = t.s ∧ xp1 = t.a1 ∧ xp2 = t.a2 ∧ xn1 = t.n1 ∧ xd1 = t.c1 ∧ xn2 = t.n2 ∧ xd2 = t.c2 := ⟨⟨xs_, xp1, xp2, xn1, xd1, xn2, xd2⟩, rfl, rfl, rfl, rfl, rfl, rfl, rfl⟩
      rw [← T.bl.cell (p := ⟨bv, ov + i * 3, none⟩) hvlt] at xk0
      rw [← T.bl.cell (p := ⟨bv, ov + i * 3 + 1, none⟩) hvlt] at xk1
      rw [← T.bl.cell (p := ⟨bv, ov + i * 3 + 2, none⟩) hvlt] at xk2
      have rv : RatIs wr tv.val xs[i]! := xr.below T.bl
      obtain ⟨b, o, rfl, hblt, hcs⟩ := unhide H3 (by omega)
      obtain ⟨s', p1, p2, m1, d1, m2, d2, k0, k1, k2, r⟩ := hcs i hlt
      obtain ⟨tx, rfl, rfl, rfl, rfl, rfl, rfl, rfl⟩ : ∃ t : Tri, s' = t.s ∧ p1 = t.a1 ∧ p2 = t.a2 ∧ m1 = t.n1 ∧ d1 = t.c1 ∧ m2 = t.n2 ∧ d2 = t.c2 := ⟨⟨s', p1, p2, m1, d1, m2, d2⟩, rfl, rfl, rfl, rfl, rfl, rfl, rfl⟩
      rw [← T.bl.cell (p := ⟨b, o + i * 3, none⟩) hblt] at k0
      rw [← T.bl.cell (p := ⟨b, o + i * 3 + 1, none⟩) hblt] at k1
      rw [← T.bl.cell (p := ⟨b, o + i * 3 + 2, none⟩) hblt] at k2
      have rx : RatIs wr tx.val qs[i]! := r.below T.bl
      have bA := alloc_below wr (.cells #[.bool tx.s, .slice tx.a1 tx.n1 tx.c1, .slice tx.a2 tx.n2 tx.c2] 37)
      have T5 := T.keep bA
      have X5 := BoxIs.new rx
      have hvlt' : bv < wr.heap.size := Nat.lt_of_lt_of_le hvlt T.bl.size
      have hi0 : (0 : Int) ≤ (i : Int) := by omega
      have hi1 : (i : Int) < (qs.length : Int) := by omega
      have HCC : Hid (∀ W, Below (wr.alloc (.cells #[.bool tx.s, .slice tx.a1 tx.n1 tx.c1, .slice tx.a2 tx.n2 tx.c2] 37)).heap.size (wr.alloc (.cells #[.bool tx.s, .slice tx.a1 tx.n1 tx.c1, .slice tx.a2 tx.n2 tx.c2] 37)) W → (fun w' : World => (w'.cell? ⟨G, 0, none⟩ = some (.bool t.s) ∧ w'.cell? ⟨G, 1, none⟩ = some (.slice t.a1 t.n1 t.c1) ∧ w'.cell? ⟨G, 2, none⟩ = some (.slice t.a2 t.n2 t.c2)) ∧ (w'.cell? ⟨wr.heap.size, 0, none⟩ = some (.bool tx.s) ∧ w'.cell? ⟨wr.heap.size, 1, none⟩ = some (.slice tx.a1 tx.n1 tx.c1) ∧ w'.cell? ⟨wr.heap.size, 2, none⟩ = some (.slice tx.a2 tx.n2 tx.c2)) ∧ w'.cell? ⟨bv, ov + i * 3, none⟩ = some (.bool tv.s) ∧ w'.cell? ⟨bv, ov + i * 3 + 1, none⟩ = some (.slice tv.a1 tv.n1 tv.c1) ∧ w'.cell? ⟨bv, ov + i * 3 + 2, none⟩ = some (.slice tv.a2 tv.n2 tv.c2)) W) := fun W hW => by
        have bc := below_step bA hW
        refine ⟨BoxIs.cells (q := mv qs xs i) ⟨T5.all, T5.rat⟩ W hW, X5.cells W hW, ?_⟩
        rw [bc.cell (p := ⟨bv, ov + i * 3, none⟩) hvlt', bc.cell (p := ⟨bv, ov + i * 3 + 1, none⟩) hvlt', bc.cell (p := ⟨bv, ov + i * 3 + 2, none⟩) hvlt']
        exact ⟨xk0, xk1, xk2⟩
      have RV5 := rv.below bA
      obtain ⟨W5, hW5⟩ : ∃ W, wr.alloc (.cells #[.bool tx.s, .slice tx.a1 tx.n1 tx.c1, .slice tx.a2 tx.n2 tx.c2] 37) = W := ⟨_, rfl⟩
      obtain ⟨gx, hgx⟩ : ∃ g, wr.heap.size = g := ⟨_, rfl⟩
      rw [hW5] at T5 X5 HCC RV5
      rw [hgx] at X5 HCC
      have HT5 := hide T5
      have HX5 := hide X5
      have HV5 := hide RV5
      have rs1 := mv_RS (unhide HQ) (unhide HXX) i (by omega)
      have rs2 := unhide HQ i hlt
      have rs3 := unhide HXX i hlt
      have hmi := Nat.mul_le_mul_right (J + 2) hi
      have hge : 1 * (J + 2) ≤ qs.length * (J + 2) := Nat.mul_le_mul_right _ (by omega)
      have HR1 := hide (rs1.mono (show i * (J + 2) + 1 ≤ qs.length * (J + 2) + 1 by omega))
      have HR2 := hide (rs2.mono (show 1 ≤ qs.length * (J + 2) + 1 by omega))
      have HR3 := hide (rs3.mono (show J ≤ qs.length * (J + 2) + 1 by omega))
      have HR4 := hide ((rs2.mul rs3).mono (show 1 + J ≤ qs.length * (J + 2) + 1 by omega))
      have hJ2 : (qs.length * (J + 2) + 1) + (qs.length * (J + 2) + 1) + 1 ≤ KK := by omega
      have HJ2 := hide hJ2
      clear T T5 X5 r rx hcs rs1 rs2 rs3 hmi hge hJ2 bA RV5 rv xr hcv xk0 xk1 xk2 hvlt'
      go_wp2_with fail
      clear hW5 hgx k0 k1 k2
      refine wp_region_till (fun w' : World => (w'.cell? ⟨G, 0, none⟩ = some (.bool t.s) ∧ w'.cell? ⟨G, 1, none⟩ = some (.slice t.a1 t.n1 t.c1) ∧ w'.cell? ⟨G, 2, none⟩ = some (.slice t.a2 t.n2 t.c2)) ∧ (w'.cell? ⟨gx, 0, none⟩ = some (.bool tx.s) ∧ w'.cell? ⟨gx, 1, none⟩ = some (.slice tx.a1 tx.n1 tx.c1) ∧ w'.cell? ⟨gx, 2, none⟩ = some (.slice tx.a2 tx.n2 tx.c2)) ∧ w'.cell? ⟨bv, ov + i * 3, none⟩ = some (.bool tv.s) ∧ w'.cell? ⟨bv, ov + i * 3 + 1, none⟩ = some (.slice tv.a1 tv.n1 tv.c1) ∧ w'.cell? ⟨bv, ov + i * 3 + 2, none⟩ = some (.slice tv.a2 tv.n2 tv.c2)) 8 (by kernel_rfl) ?_
      have bd0 : Below W5.heap.size W5 W5.drew := (Below.refl _ _).drew
      have hC0 : (fun w' : World => (w'.cell? ⟨G, 0, none⟩ = some (.bool t.s) ∧ w'.cell? ⟨G, 1, none⟩ = some (.slice t.a1 t.n1 t.c1) ∧ w'.cell? ⟨G, 2, none⟩ = some (.slice t.a2 t.n2 t.c2)) ∧ (w'.cell? ⟨gx, 0, none⟩ = some (.bool tx.s) ∧ w'.cell? ⟨gx, 1, none⟩ = some (.slice tx.a1 tx.n1 tx.c1) ∧ w'.cell? ⟨gx, 2, none⟩ = some (.slice tx.a2 tx.n2 tx.c2)) ∧ w'.cell? ⟨bv, ov + i * 3, none⟩ = some (.bool tv.s) ∧ w'.cell? ⟨bv, ov + i * 3 + 1, none⟩ = some (.slice tv.a1 tv.n1 tv.c1) ∧ w'.cell? ⟨bv, ov + i * 3 + 2, none⟩ = some (.slice tv.a2 tv.n2 tv.c2)) W5.drew := unhide HCC _ bd0
      refine wpTill_take (i := 0) (v := ?_) rfl (by kernel_rfl) (by kernel_rfl) (by kernel_rfl) (by kernel_rfl) (by kernel_rfl) (by kernel_rfl) (fun _ _ _ h => h) (Or.inl ⟨by rfl, ?_⟩) hC0 ?_
      rotate_left
      · intro w hSw; (try dsimp only at hSw); obtain ⟨⟨z0, z1, z2⟩, ⟨z3, z4, z5⟩, z6, z7, z8⟩ := hSw; go_simp; (try with_reducible rfl)
      (try simp only [List.getElem_toArray, List.getElem_cons_succ, List.getElem_cons_zero])
      (try simp only [Act.put, List.setIfInBounds_toArray, List.set_cons_zero, List.set_cons_succ])
      refine wpTill_take (i := 1) (v := ?_) rfl (by kernel_rfl) (by kernel_rfl) (by kernel_rfl) (by kernel_rfl) (by kernel_rfl) (by kernel_rfl) (fun _ _ _ h => h) (Or.inl ⟨by rfl, ?_⟩) hC0 ?_
      rotate_left
      · intro w hSw; (try dsimp only at hSw); obtain ⟨⟨z0, z1, z2⟩, ⟨z3, z4, z5⟩, z6, z7, z8⟩ := hSw; go_simp; (try with_reducible rfl)
      (try simp only [List.getElem_toArray, List.getElem_cons_succ, List.getElem_cons_zero])
      (try simp only [Act.put, List.setIfInBounds_toArray, List.set_cons_zero, List.set_cons_succ])
      refine wpTill_pure (i := 2) (v := ?_) rfl (by kernel_rfl) (by kernel_rfl) (by kernel_rfl) (by kernel_rfl) (fun _ _ _ h => h) (Or.inl ⟨by rfl, ?_⟩) (fun _ => hC0) ?_
      rotate_left
      · intro w hSw; clear hSw; go_simp; (try with_reducible rfl)
      (try simp only [List.getElem_toArray, List.getElem_cons_succ, List.getElem_cons_zero])
      (try simp only [Act.put, List.setIfInBounds_toArray, List.set_cons_zero, List.set_cons_succ])
      refine wpTill_pure (i := 3) (v := ?_) rfl (by kernel_rfl) (by kernel_rfl) (by kernel_rfl) (by kernel_rfl) (fun _ _ _ h => h) (Or.inl ⟨by rfl, ?_⟩) (fun _ => hC0) ?_
      rotate_left
      · intro w hSw; clear hSw; go_simp; (try with_reducible rfl)
      (try simp only [List.getElem_toArray, List.getElem_cons_succ, List.getElem_cons_zero])
      (try simp only [Act.put, List.setIfInBounds_toArray, List.set_cons_zero, List.set_cons_succ])
      refine wpTill_pure (i := 4) (v := ?_) rfl (by kernel_rfl) (by kernel_rfl) (by kernel_rfl) (by kernel_rfl) (fun _ _ _ h => h) (Or.inl ⟨by rfl, ?_⟩) (fun _ => hC0) ?_
      rotate_left
      · intro w hSw; clear hSw; go_simp; (try with_reducible rfl)
      (try simp only [List.getElem_toArray, List.getElem_cons_succ, List.getElem_cons_zero])
      (try simp only [Act.put, List.setIfInBounds_toArray, List.set_cons_zero, List.set_cons_succ])
      refine wpTill_take (i := 5) (v := ?_) rfl (by kernel_rfl) (by kernel_rfl) (by kernel_rfl) (by kernel_rfl) (by kernel_rfl) (by kernel_rfl) (fun _ _ _ h => h) (Or.inl ⟨by rfl, ?_⟩) hC0 ?_
      rotate_left
      · intro w hSw; (try dsimp only at hSw); obtain ⟨⟨z0, z1, z2⟩, ⟨z3, z4, z5⟩, z6, z7, z8⟩ := hSw; go_simp; (try with_reducible rfl)
      (try simp only [List.getElem_toArray, List.getElem_cons_succ, List.getElem_cons_zero])
      (try simp only [Act.put, List.setIfInBounds_toArray, List.set_cons_zero, List.set_cons_succ])
      refine wpTill_one (k := 6) (by kernel_rfl) rfl (fun K hK => ?_)
      (try simp only [List.getElem_toArray, List.getElem_cons_succ, List.getElem_cons_zero])
      go_simp
      refine (mulR_any _ _ _ _ _ ((unhide HX5).2.below bd0) ((unhide HV5).below bd0) _ (unhide HR2) (unhide HR3) (unhide HJ2)).mono ?_
      rintro e w8 ⟨v8, rfl, hv8, hb8⟩
      have b8 := below_step bd0 hb8
      have hC8 : (fun w' : World => (w'.cell? ⟨G, 0, none⟩ = some (.bool t.s) ∧ w'.cell? ⟨G, 1, none⟩ = some (.slice t.a1 t.n1 t.c1) ∧ w'.cell? ⟨G, 2, none⟩ = some (.slice t.a2 t.n2 t.c2)) ∧ (w'.cell? ⟨gx, 0, none⟩ = some (.bool tx.s) ∧ w'.cell? ⟨gx, 1, none⟩ = some (.slice tx.a1 tx.n1 tx.c1) ∧ w'.cell? ⟨gx, 2, none⟩ = some (.slice tx.a2 tx.n2 tx.c2)) ∧ w'.cell? ⟨bv, ov + i * 3, none⟩ = some (.bool tv.s) ∧ w'.cell? ⟨bv, ov + i * 3 + 1, none⟩ = some (.slice tv.a1 tv.n1 tv.c1) ∧ w'.cell? ⟨bv, ov + i * 3 + 2, none⟩ = some (.slice tv.a2 tv.n2 tv.c2)) w8 := unhide HCC _ b8
      have HAD := hide (addR_any _ _ _ _ w8 ((unhide HT5).rat.below b8) hv8 _ (unhide HR1) (unhide HR4) (unhide HJ2))
      refine hK.out _ _ (fun _ => hC8) ?_
      clear hK K
      (try simp only [Act.put, List.setIfInBounds_toArray, List.set_cons_zero, List.set_cons_succ])
      refine wpTill_one (k := 7) (by kernel_rfl) rfl (fun K hK => ?_)
      (try simp only [List.getElem_toArray, List.getElem_cons_succ, List.getElem_cons_zero])
      go_simp
      refine (unhide HAD).mono ?_
      rintro e w9 ⟨v9, rfl, hv9, hb9⟩
      have b9 := below_step b8 hb9
      have hC9 : (fun w' : World => (w'.cell? ⟨G, 0, none⟩ = some (.bool t.s) ∧ w'.cell? ⟨G, 1, none⟩ = some (.slice t.a1 t.n1 t.c1) ∧ w'.cell? ⟨G, 2, none⟩ = some (.slice t.a2 t.n2 t.c2)) ∧ (w'.cell? ⟨gx, 0, none⟩ = some (.bool tx.s) ∧ w'.cell? ⟨gx, 1, none⟩ = some (.slice tx.a1 tx.n1 tx.c1) ∧ w'.cell? ⟨gx, 2, none⟩ = some (.slice tx.a2 tx.n2 tx.c2)) ∧ w'.cell? ⟨bv, ov + i * 3, none⟩ = some (.bool tv.s) ∧ w'.cell? ⟨bv, ov + i * 3 + 1, none⟩ = some (.slice tv.a1 tv.n1 tv.c1) ∧ w'.cell? ⟨bv, ov + i * 3 + 2, none⟩ = some (.slice tv.a2 tv.n2 tv.c2)) w9 := unhide HCC _ b9
      obtain ⟨t9, rfl, hr9⟩ := tri_of hv9
      have T9 := (unhide HT5).keep b9
      have FIN := hide (T9.set hr9)
      have ⟨_, _, _, l0, l1, l2⟩ := box_cell T9.all
      have ⟨⟨y0, y1, y2⟩, _⟩ := hC9
      simp only [Tri.val]
      clear T9 hv9 hr9 hv8
      refine hK.out _ _ (fun _ => hC9) ?_
      clear hK K
      (try simp only [Act.put, List.setIfInBounds_toArray, List.set_cons_zero, List.set_cons_succ])
      refine wpTill_one (k := 8) (by kernel_rfl) rfl (fun K hK => ?_)
      (try simp only [List.getElem_toArray, List.getElem_cons_succ, List.getElem_cons_zero])
      go_simp
      refine hK.out _ _ (fun h => absurd (h.symm.trans (by kernel_rfl)) Bool.false_ne_true) ?_
      clear hK K
      (try simp only [Act.put, List.setIfInBounds_toArray, List.set_cons_zero, List.set_cons_succ])
      refine wpTill_done (by kernel_rfl) ?_ _
      clear hC0 hC8 hC9 bd0 b8 b9 hb8 hb9 y0 y1 y2 l0 l1 l2
      go_wp2_with fail
      exact ⟨⟨i + 1, t9, by go_num, hlt, unhide FIN⟩, by simp [intOf]; omega⟩
    · obtain rfl : i = qs.length := by omega
      have hlt' : ¬ (qs.length : Int) < (qs.length : Int) := by omega
      have ⟨g0, g1, g2, f0, f1, f2⟩ := box_cell T.all
      have ⟨h0, h1', h2', l0, l1, l2⟩ := box_cell T.res
      have rb := rat_boxed (w0 := w) T.rat T.res T.bl (Nat.le_refl _) (.bool t.s) (.slice t.a1 t.n1 t.c1) (.slice t.a2 t.n2 t.c2)
      have RB := hide rb
      clear T rb H3 HQ
      go_wp2
      (try simp only [Exit.inBlock, Exit.then])
      have rb := unhide RB
      exact bodyPost_ret (v := .agg #[.bool t.s, .slice t.a1 t.n1 t.c1, .slice t.a2 t.n2 t.c2]) (by simp [results, Tryz.results81, go_sem, h0, h1', h2']) rfl ⟨_, rfl, rb.1, rb.2⟩

theorem gt_cmpv (a b : Rat) : Mdp.gt a b = decide (0 < cmpv a b) := by
  unfold Mdp.gt
  by_cases h : b < a
  · rw [cmpv_gt h]; simp [h]
  · have := cmpv_le (Rat.not_lt.1 h)
    simp [h]; omega
theorem eq_cmpv (a b : Rat) : decide (a = b) = (cmpv a b == 0) := by
  have : cmpv a b = 0 ↔ a = b := by unfold cmpv; rw [sg_zero, ← Rat.eq_iff_mul_eq_mul]
  by_cases h : a = b
  · rw [this.2 h]; simp [h]
  · have h2 : ¬ cmpv a b = 0 := fun x => h (this.1 x)
    simp [h, h2]

set_option maxHeartbeats 16000000 in
set_option maxRecDepth 100000 in
set_option linter.unusedSimpArgs false in
theorem step1_any (va vb : Value) (qa qb : Rat) (w : World) (ha : RatIs w va qa) (hb : RatIs w vb qb) (j : Nat) (ra : RS qa j) (rb : RS qb j) (hj : j ≤ KK) : Calls Tryz.prog 83 #[va, vb] w (fun e w' => e = .returned (.bool (Mdp.gt qa qb)) ∧ Below w.heap.size w w') := by
  obtain ⟨ta, rfl, ha'⟩ := tri_of ha
  obtain ⟨tb, rfl, hb'⟩ := tri_of hb
  have b1 := alloc_below w (.cells #[.bool ta.s, .slice ta.a1 ta.n1 ta.c1, .slice ta.a2 ta.n2 ta.c2] 37)
  have X0 := BoxIs.new ha'
  obtain ⟨W1, hW1⟩ : ∃ W, w.alloc (.cells #[.bool ta.s, .slice ta.a1 ta.n1 ta.c1, .slice ta.a2 ta.n2 ta.c2] 37) = W := ⟨_, rfl⟩
  obtain ⟨g1, hg1⟩ : ∃ g, w.heap.size + 1 = g := ⟨_, rfl⟩
  have s1 : W1.heap.size = g1 := by rw [← hW1, alloc_size, hg1]
  rw [hW1] at b1 X0
  have b2 := alloc_below W1 (.cells #[.bool tb.s, .slice tb.a1 tb.n1 tb.c1, .slice tb.a2 tb.n2 tb.c2] 37)
  have X1 := BoxIs.new (hb'.below b1)
  obtain ⟨W2, hW2⟩ : ∃ W, W1.alloc (.cells #[.bool tb.s, .slice tb.a1 tb.n1 tb.c1, .slice tb.a2 tb.n2 tb.c2] 37) = W := ⟨_, rfl⟩
  rw [hW2] at b2 X1
  rw [s1] at X1
  have Y0 := X0.keep b2
  have ⟨c0, c1, c2⟩ := Y0.cells _ (Below.refl _ _)
  have ⟨d0, d1, d2⟩ := X1.cells _ (Below.refl _ _)
  have HCM := hide (cmpR_all ta.val tb.val qa qb W2 Y0.2 X1.2 j ra rb hj)
  have HB := hide (below_step b1 b2)
  obtain ⟨y, hy⟩ : ∃ y, cmpv qa qb = y := ⟨_, rfl⟩
  rw [hy] at HCM
  have HE := hide (show Mdp.gt qa qb = decide (0 < y) by rw [← hy]; exact gt_cmpv qa qb)
  simp only [Tri.val]
  clear ha hb ha' hb' b1 b2 X0 X1 Y0 ra rb hy
  go_enter Tryz.func83, Tryz.ntmps83
  go_wp2_with fail
  refine (unhide HCM).mono ?_
  rintro e w3 ⟨rfl, hb3⟩
  have HB3 := hide (below_step (unhide HB) hb3)
  clear hW1 hW2 s1 hg1 c0 c1 c2 d0 d1 d2 hb3 HCM HB
  go_wp2
  go_ret
  exact ⟨by rw [unhide HE]; rfl, unhide HB3⟩

set_option maxHeartbeats 16000000 in
set_option maxRecDepth 100000 in
set_option linter.unusedSimpArgs false in
theorem best1_any (va vb : Value) (qa qb : Rat) (w : World) (ha : RatIs w va qa) (hb : RatIs w vb qb) (j : Nat) (ra : RS qa j) (rb : RS qb j) (hj : j ≤ KK) : Calls Tryz.prog 53 #[va, vb] w (fun e w' => e = .returned (.bool (decide (qa = qb))) ∧ Below w.heap.size w w') := by
  obtain ⟨ta, rfl, ha'⟩ := tri_of ha
  obtain ⟨tb, rfl, hb'⟩ := tri_of hb
  have b1 := alloc_below w (.cells #[.bool ta.s, .slice ta.a1 ta.n1 ta.c1, .slice ta.a2 ta.n2 ta.c2] 37)
  have X0 := BoxIs.new ha'
  obtain ⟨W1, hW1⟩ : ∃ W, w.alloc (.cells #[.bool ta.s, .slice ta.a1 ta.n1 ta.c1, .slice ta.a2 ta.n2 ta.c2] 37) = W := ⟨_, rfl⟩
  obtain ⟨g1, hg1⟩ : ∃ g, w.heap.size + 1 = g := ⟨_, rfl⟩
  have s1 : W1.heap.size = g1 := by rw [← hW1, alloc_size, hg1]
  rw [hW1] at b1 X0
  have b2 := alloc_below W1 (.cells #[.bool tb.s, .slice tb.a1 tb.n1 tb.c1, .slice tb.a2 tb.n2 tb.c2] 37)
  have X1 := BoxIs.new (hb'.below b1)
  obtain ⟨W2, hW2⟩ : ∃ W, W1.alloc (.cells #[.bool tb.s, .slice tb.a1 tb.n1 tb.c1, .slice tb.a2 tb.n2 tb.c2] 37) = W := ⟨_, rfl⟩
  rw [hW2] at b2 X1
  rw [s1] at X1
  have Y0 := X0.keep b2
  have ⟨c0, c1, c2⟩ := Y0.cells _ (Below.refl _ _)
  have ⟨d0, d1, d2⟩ := X1.cells _ (Below.refl _ _)
  have HCM := hide (cmpR_all ta.val tb.val qa qb W2 Y0.2 X1.2 j ra rb hj)
  have HB := hide (below_step b1 b2)
  obtain ⟨y, hy⟩ : ∃ y, cmpv qa qb = y := ⟨_, rfl⟩
  rw [hy] at HCM
  have HE := hide (show decide (qa = qb) = (y == 0) by rw [← hy]; exact eq_cmpv qa qb)
  simp only [Tri.val]
  clear ha hb ha' hb' b1 b2 X0 X1 Y0 ra rb hy
  go_enter Tryz.func53, Tryz.ntmps53
  go_wp2_with fail
  refine (unhide HCM).mono ?_
  rintro e w3 ⟨rfl, hb3⟩
  have HB3 := hide (below_step (unhide HB) hb3)
  clear hW1 hW2 s1 hg1 c0 c1 c2 d0 d1 d2 hb3 HCM HB
  go_wp2
  go_ret
  exact ⟨by rw [unhide HE]; rfl, unhide HB3⟩

set_option maxHeartbeats 16000000 in
set_option maxRecDepth 100000 in
set_option linter.unusedSimpArgs false in
theorem first_any (v : Value) (qs : List Rat) (fk : Nat) (r : Rat → Rat → Bool) (w : World) (h : LawIs w v qs) (hn0 : 0 < qs.length) (heg : ∀ args w, (callFunc fk args).run Tryz.prog w = .ok (.enter fk args) w)
    (hc : ∀ i j, i < qs.length → j < qs.length → ∀ W va vb, RatIs W va qs[i]! → RatIs W vb qs[j]! → Calls Tryz.prog fk #[va, vb] W fun e w' => e = .returned (.bool (r qs[i]! qs[j]!)) ∧ Below W.heap.size W w') :
    Calls Tryz.prog 82 #[v, .func (.func fk) #[] #[]] w fun e w' => e = .returned (.int .i64 (Mdp.am r (bf qs) qs.length : Nat)) ∧ Below w.heap.size w w' := by
  obtain ⟨a, c, rfl, h1, h2, h3⟩ := h
  obtain ⟨b, o, rfl, hblt, hcs⟩ := h3 hn0
  have HCS := hide hcs
  have HC := hide hc
  have HN0 := hide hn0
  clear h3 hc hcs hn0
  go_enter Tryz.func82, Tryz.ntmps82
  go_wp2_with fail
  go_loopw [5, 10] (fun vp vi wr => ∃ i : Nat, vi = .int .i64 (i : Int) ∧ vp = .int .i64 ((Mdp.am r (bf qs) i : Nat) : Int) ∧ i ≤ qs.length ∧ Below w.heap.size w wr) (fun _ vi _ => qs.length - (intOf vi).toNat)
  case atStart => exact ⟨0, rfl, rfl, Nat.zero_le _, Below.refl _ _⟩
  case round =>
    obtain ⟨i, rfl, rfl, hi, hb⟩ := hrel
    by_cases hlt : i < qs.length
    · have hp : Mdp.am r (bf qs) i < qs.length := by
        by_cases e : 0 < i
        · have := Mdp.am_lt r (bf qs) e; omega
        · obtain rfl : i = 0 := by omega
          exact unhide HN0
      have HAM : Hid (Mdp.am r (bf qs) (i + 1) = if r qs[i]! qs[Mdp.am r (bf qs) i]! = true then i else Mdp.am r (bf qs) i) := rfl
      obtain ⟨p, hpp⟩ : ∃ p, Mdp.am r (bf qs) i = p := ⟨_, rfl⟩
      rw [hpp] at hp HAM
      rw [hpp]
      obtain ⟨s', p1, p2, m1, d1, m2, d2, k0, k1, k2, rr⟩ := unhide HCS i hlt
      obtain ⟨tx, rfl, rfl, rfl, rfl, rfl, rfl, rfl⟩ : ∃ t : Tri, s' = t.s ∧ p1 = t.a1 ∧ p2 = t.a2 ∧ m1 = t.n1 ∧ d1 = t.c1 ∧ m2 = t.n2 ∧ d2 = t.c2 := ⟨⟨s', p1, p2, m1, d1, m2, d2⟩, rfl, rfl, rfl, rfl, rfl, rfl, rfl⟩
      rw [← hb.cell (p := ⟨b, o + i * 3, none⟩) hblt] at k0
      rw [← hb.cell (p := ⟨b, o + i * 3 + 1, none⟩) hblt] at k1
      rw [← hb.cell (p := ⟨b, o + i * 3 + 2, none⟩) hblt] at k2
      obtain ⟨xs_, xp1, xp2, xn1, xd1, xn2, xd2, xk0, xk1, xk2, xr⟩ := unhide HCS p hp
      obtain ⟨tp, rfl, rfl, rfl, rfl, rfl, rfl, rfl⟩ : ∃ t : Tri, xs_ = t.s ∧ xp1 = t.a1 ∧ xp2 = t.a2 ∧ xn1 = t.n1 ∧ xd1 = t.c1 ∧ xn2 = t.n2 ∧ xd2 = t.c2 := ⟨⟨xs_, xp1, xp2, xn1, xd1, xn2, xd2⟩, rfl, rfl, rfl, rfl, rfl, rfl, rfl⟩
      have bA := alloc_below wr (.cells #[.bool tx.s, .slice tx.a1 tx.n1 tx.c1, .slice tx.a2 tx.n2 tx.c2] 37)
      have X5 := BoxIs.new (rr.below hb)
      have bw := below_step hb bA
      obtain ⟨W5, hW5⟩ : ∃ W, wr.alloc (.cells #[.bool tx.s, .slice tx.a1 tx.n1 tx.c1, .slice tx.a2 tx.n2 tx.c2] 37) = W := ⟨_, rfl⟩
      obtain ⟨gx, hgx⟩ : ∃ g, wr.heap.size = g := ⟨_, rfl⟩
      rw [hW5] at bw X5
      rw [hgx] at X5
      have HX5 := hide X5
      have HCC : Hid (∀ W, Below W5.heap.size W5 W → (fun w' : World => (w'.cell? ⟨gx, 0, none⟩ = some (.bool tx.s) ∧ w'.cell? ⟨gx, 1, none⟩ = some (.slice tx.a1 tx.n1 tx.c1) ∧ w'.cell? ⟨gx, 2, none⟩ = some (.slice tx.a2 tx.n2 tx.c2)) ∧ w'.cell? ⟨b, o + p * 3, none⟩ = some (.bool tp.s) ∧ w'.cell? ⟨b, o + p * 3 + 1, none⟩ = some (.slice tp.a1 tp.n1 tp.c1) ∧ w'.cell? ⟨b, o + p * 3 + 2, none⟩ = some (.slice tp.a2 tp.n2 tp.c2)) W) := fun W hW => by
        have bc := below_step bw hW
        refine ⟨X5.cells W hW, ?_⟩
        rw [bc.cell (p := ⟨b, o + p * 3, none⟩) hblt, bc.cell (p := ⟨b, o + p * 3 + 1, none⟩) hblt, bc.cell (p := ⟨b, o + p * 3 + 2, none⟩) hblt]
        exact ⟨xk0, xk1, xk2⟩
      have HRP := hide (xr.below bw)
      have HBW := hide bw
      obtain ⟨rb, hrb⟩ : ∃ x, r qs[i]! qs[p]! = x := ⟨_, rfl⟩
      rw [hrb] at HAM
      have HCL : Hid (∀ W, Below W5.heap.size W5 W → Calls Tryz.prog fk #[.agg #[.bool tx.s, .slice tx.a1 tx.n1 tx.c1, .slice tx.a2 tx.n2 tx.c2], .agg #[.bool tp.s, .slice tp.a1 tp.n1 tp.c1, .slice tp.a2 tp.n2 tp.c2]] W fun e w' => e = .returned (.bool rb) ∧ Below W.heap.size W w') := fun W hW => by
        have := unhide HC i p hlt hp W tx.val tp.val ((unhide HX5).2.below hW) ((unhide HRP).below hW)
        rw [hrb] at this
        exact this
      have e1 : (i : Int) < (qs.length : Int) := by omega
      have e0 : (0 : Int) ≤ (i : Int) := by omega
      have p1 : (p : Int) < (qs.length : Int) := by omega
      have p0 : (0 : Int) ≤ (p : Int) := by omega
      have HHP := hide hp
      clear hb rr xr xk0 xk1 xk2 bA bw X5 hrb hpp hp
      go_wp2_with fail
      clear hW5 hgx k0 k1 k2
      refine wp_region_hold (fun w' : World => (w'.cell? ⟨gx, 0, none⟩ = some (.bool tx.s) ∧ w'.cell? ⟨gx, 1, none⟩ = some (.slice tx.a1 tx.n1 tx.c1) ∧ w'.cell? ⟨gx, 2, none⟩ = some (.slice tx.a2 tx.n2 tx.c2)) ∧ w'.cell? ⟨b, o + p * 3, none⟩ = some (.bool tp.s) ∧ w'.cell? ⟨b, o + p * 3 + 1, none⟩ = some (.slice tp.a1 tp.n1 tp.c1) ∧ w'.cell? ⟨b, o + p * 3 + 2, none⟩ = some (.slice tp.a2 tp.n2 tp.c2)) (by kernel_rfl) ?_
      have bd0 : Below W5.heap.size W5 W5.drew := (Below.refl _ _).drew
      have hC0 : (fun w' : World => (w'.cell? ⟨gx, 0, none⟩ = some (.bool tx.s) ∧ w'.cell? ⟨gx, 1, none⟩ = some (.slice tx.a1 tx.n1 tx.c1) ∧ w'.cell? ⟨gx, 2, none⟩ = some (.slice tx.a2 tx.n2 tx.c2)) ∧ w'.cell? ⟨b, o + p * 3, none⟩ = some (.bool tp.s) ∧ w'.cell? ⟨b, o + p * 3 + 1, none⟩ = some (.slice tp.a1 tp.n1 tp.c1) ∧ w'.cell? ⟨b, o + p * 3 + 2, none⟩ = some (.slice tp.a2 tp.n2 tp.c2)) W5.drew := unhide HCC _ bd0
      refine wpHold_take (i := 0) (v := ?_) rfl (by kernel_rfl) (by kernel_rfl) (by kernel_rfl) (fun _ _ _ h => h) (Or.inl ⟨by rfl, ?_⟩) hC0 ?_
      rotate_left
      · intro w hSw; clear hSw; go_simp; (try with_reducible rfl)
      (try simp only [List.getElem_toArray, List.getElem_cons_succ, List.getElem_cons_zero])
      (try simp only [Act.put, List.setIfInBounds_toArray, List.set_cons_zero, List.set_cons_succ])
      refine wpHold_take (i := 1) (v := ?_) rfl (by kernel_rfl) (by kernel_rfl) (by kernel_rfl) (fun _ _ _ h => h) (Or.inl ⟨by rfl, ?_⟩) hC0 ?_
      rotate_left
      · intro w hSw; (try dsimp only at hSw); obtain ⟨⟨z0, z1, z2⟩, z3, z4, z5⟩ := hSw; go_simp; (try with_reducible rfl)
      (try simp only [List.getElem_toArray, List.getElem_cons_succ, List.getElem_cons_zero])
      (try simp only [Act.put, List.setIfInBounds_toArray, List.set_cons_zero, List.set_cons_succ])
      refine wpHold_take (i := 2) (v := ?_) rfl (by kernel_rfl) (by kernel_rfl) (by kernel_rfl) (fun _ _ _ h => h) (Or.inl ⟨by rfl, ?_⟩) hC0 ?_
      rotate_left
      · intro w hSw; clear hSw; go_simp; (try with_reducible rfl)
      (try simp only [List.getElem_toArray, List.getElem_cons_succ, List.getElem_cons_zero])
      (try simp only [Act.put, List.setIfInBounds_toArray, List.set_cons_zero, List.set_cons_succ])
      refine wpHold_take (i := 3) (v := ?_) rfl (by kernel_rfl) (by kernel_rfl) (by kernel_rfl) (fun _ _ _ h => h) (Or.inl ⟨by rfl, ?_⟩) hC0 ?_
      rotate_left
      · intro w hSw; clear hSw; go_simp; (try with_reducible rfl)
      (try simp only [List.getElem_toArray, List.getElem_cons_succ, List.getElem_cons_zero])
      (try simp only [Act.put, List.setIfInBounds_toArray, List.set_cons_zero, List.set_cons_succ])
      refine wpHold_take (i := 4) (v := ?_) rfl (by kernel_rfl) (by kernel_rfl) (by kernel_rfl) (fun _ _ _ h => h) (Or.inl ⟨by rfl, ?_⟩) hC0 ?_
      rotate_left
      · intro w hSw; clear hSw; go_simp; (try with_reducible rfl)
      (try simp only [List.getElem_toArray, List.getElem_cons_succ, List.getElem_cons_zero])
      (try simp only [Act.put, List.setIfInBounds_toArray, List.set_cons_zero, List.set_cons_succ])
      refine wpHold_take (i := 5) (v := ?_) rfl (by kernel_rfl) (by kernel_rfl) (by kernel_rfl) (fun _ _ _ h => h) (Or.inl ⟨by rfl, ?_⟩) hC0 ?_
      rotate_left
      · intro w hSw; (try dsimp only at hSw); obtain ⟨⟨z0, z1, z2⟩, z3, z4, z5⟩ := hSw; go_simp; (try with_reducible rfl)
      (try simp only [List.getElem_toArray, List.getElem_cons_succ, List.getElem_cons_zero])
      (try simp only [Act.put, List.setIfInBounds_toArray, List.set_cons_zero, List.set_cons_succ])
      refine wpHold_one (k := 6) (by kernel_rfl) rfl (fun K hK => ?_)
      (try simp only [List.getElem_toArray, List.getElem_cons_succ, List.getElem_cons_zero])
      go_simp
      refine (unhide HCL _ bd0).mono ?_
      rintro e xw_1 ⟨rfl, hb_1⟩
      have cc_1 := below_step bd0 hb_1
      have hC_1 : (fun w' : World => (w'.cell? ⟨gx, 0, none⟩ = some (.bool tx.s) ∧ w'.cell? ⟨gx, 1, none⟩ = some (.slice tx.a1 tx.n1 tx.c1) ∧ w'.cell? ⟨gx, 2, none⟩ = some (.slice tx.a2 tx.n2 tx.c2)) ∧ w'.cell? ⟨b, o + p * 3, none⟩ = some (.bool tp.s) ∧ w'.cell? ⟨b, o + p * 3 + 1, none⟩ = some (.slice tp.a1 tp.n1 tp.c1) ∧ w'.cell? ⟨b, o + p * 3 + 2, none⟩ = some (.slice tp.a2 tp.n2 tp.c2)) xw_1 := unhide HCC _ cc_1
      refine hK.out _ _ hC_1 ?_
      clear hK K
      (try simp only [Act.put, List.setIfInBounds_toArray, List.set_cons_zero, List.set_cons_succ])
      refine wpHold_done (by kernel_rfl) ?_ _
      have HB6 := hide (below_step (unhide HBW) cc_1)
      clear hC0 hC_1 cc_1 bd0 hb_1 HCC HCL HX5 HRP HBW
      cases rb with
      | true =>
        have HAM2 : Hid (Mdp.am r (bf qs) (i + 1) = i) := by have := unhide HAM; rw [if_pos rfl] at this; exact this
        go_wp2_with fail
        exact ⟨⟨i + 1, by go_num, by rw [unhide HAM2], hlt, unhide HB6⟩, by simp [intOf]; omega⟩
      | false =>
        have HAM2 : Hid (Mdp.am r (bf qs) (i + 1) = p) := by have := unhide HAM; rw [if_neg (by decide)] at this; exact this
        go_wp2_with fail
        exact ⟨⟨i + 1, by go_num, by rw [unhide HAM2], hlt, unhide HB6⟩, by simp [intOf]; omega⟩
    · obtain rfl : i = qs.length := by omega
      have e1 : ¬ (qs.length : Int) < (qs.length : Int) := by omega
      have HB := hide hb
      obtain ⟨x, hx⟩ : ∃ x, ((Mdp.am r (bf qs) qs.length : Nat) : Int) = x := ⟨_, rfl⟩
      rw [hx]
      have HXX := hide hx
      clear hb hx
      go_wp2
      go_ret
      exact ⟨by rw [unhide HXX]; rfl, unhide HB⟩

end Go.Proofs.YtjlohghknejjoaaGreatDoor
