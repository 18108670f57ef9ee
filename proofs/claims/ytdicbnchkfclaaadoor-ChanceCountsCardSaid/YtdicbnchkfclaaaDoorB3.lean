/- So many times one number less so many times another one, word by word. -/
import Derived.Test.YtdicbnchkfclaaaDoorW38
import Derived.Deep.RegionWith
import Derived.Deep.RegionHeld3
namespace Go.Proofs.YtdicbnchkfclaaaDoor
open Go.RowKit Go.Sort Go.Shelf

/-- A mix in memory. -/
def MixIs (w : World) (g : Nat) (p q ca ch bo : Int) : Prop := w.heap[g]? = some (.cells #[.int .u64 p, .int .u64 q, .int .u64 ca, .int .u64 ch, .int .u64 bo] 135 (0, 0))

theorem MixIs.cells {w : World} {g : Nat} {p q ca ch bo : Int} (h : MixIs w g p q ca ch bo) :
    w.cell? ⟨g, 0, none⟩ = some (.int .u64 p) ∧ w.cell? ⟨g, 1, none⟩ = some (.int .u64 q) ∧ w.cell? ⟨g, 2, none⟩ = some (.int .u64 ca) ∧ w.cell? ⟨g, 3, none⟩ = some (.int .u64 ch) ∧ w.cell? ⟨g, 4, none⟩ = some (.int .u64 bo) ∧
    w.frozen? ⟨g, 2, none⟩ = false ∧ w.frozen? ⟨g, 3, none⟩ = false ∧ w.frozen? ⟨g, 4, none⟩ = false := by
  unfold MixIs at h
  simp [World.cell?, World.frozen?, h]
theorem MixIs.drew {w : World} {g : Nat} {p q ca ch bo : Int} (h : MixIs w g p q ca ch bo) : MixIs w.drew g p q ca ch bo := h
theorem MixIs.drewN {w : World} {g : Nat} {p q ca ch bo : Int} (h : MixIs w g p q ca ch bo) (z : Nat) : MixIs (w.drewN z) g p q ca ch bo := h
theorem MixIs.set2 {w : World} {g : Nat} {p q ca ch bo x : Int} (h : MixIs w g p q ca ch bo) : MixIs (w.setCell ⟨g, 2, none⟩ (.int .u64 x)) g p q x ch bo := by
  rw [setCell_eq]
  unfold MixIs at *
  simp [mapBlock, Array.getElem?_modify, h, onCells]
theorem MixIs.set3 {w : World} {g : Nat} {p q ca ch bo x : Int} (h : MixIs w g p q ca ch bo) : MixIs (w.setCell ⟨g, 3, none⟩ (.int .u64 x)) g p q ca x bo := by
  rw [setCell_eq]
  unfold MixIs at *
  simp [mapBlock, Array.getElem?_modify, h, onCells]
theorem MixIs.set4 {w : World} {g : Nat} {p q ca ch bo x : Int} (h : MixIs w g p q ca ch bo) : MixIs (w.setCell ⟨g, 4, none⟩ (.int .u64 x)) g p q ca ch x := by
  rw [setCell_eq]
  unfold MixIs at *
  simp [mapBlock, Array.getElem?_modify, h, onCells]

/-- Nothing but block g has changed. -/
structure Apart (g : Nat) (w w' : World) : Prop where
  os : w'.os = w.os
  tape : w'.tape = w.tape
  output : w'.output = w.output
  size : w'.heap.size = w.heap.size
  block : ∀ k, k ≠ g → w'.heap[k]? = w.heap[k]?
theorem Apart.refl (g : Nat) (w : World) : Apart g w w := ⟨rfl, rfl, rfl, rfl, fun _ _ => rfl⟩
theorem Apart.drew {g : Nat} {w w' : World} (h : Apart g w w') : Apart g w w'.drew := ⟨h.os, h.tape, h.output, h.size, h.block⟩
theorem Apart.drewN {g : Nat} {w w' : World} (h : Apart g w w') (z : Nat) : Apart g w (w'.drewN z) := ⟨h.os, h.tape, h.output, h.size, h.block⟩
theorem Apart.set {g : Nat} {w w' : World} (h : Apart g w w') (i : Nat) (v : Value) : Apart g w (w'.setCell ⟨g, i, none⟩ v) := by
  rw [setCell_eq]
  refine ⟨h.os, h.tape, h.output, by simpa [mapBlock] using h.size, fun k hk => ?_⟩
  simp only [mapBlock, Array.getElem?_modify]
  rw [if_neg (Ne.symm hk)]
  exact h.block k hk

set_option maxHeartbeats 4000000 in
set_option maxRecDepth 100000 in
theorem next_any (g : Nat) (p q ca ch bo x y : Int) (w : World) (h : MixIs w g p q ca ch bo) (hp : Wd.W64 p) (hq : Wd.W64 q) (hca : Wd.W64 ca) (hch : Wd.W64 ch) (hb0 : 0 ≤ bo) (hb1 : bo ≤ 1) (hx : Wd.W64 x) (hy : Wd.W64 y) :
    Calls Tryd.prog 105 #[.pointer (some ⟨g, 0, none⟩), .int .u64 x, .int .u64 y] w fun e w' =>
      e = .returned (.int .u64 (((p * x + ca) % 18446744073709551616 - (q * y + ch) % 18446744073709551616 - bo) % 18446744073709551616)) ∧
      MixIs w' g p q ((p * x + ca) / 18446744073709551616) ((q * y + ch) / 18446744073709551616) (bor ((p * x + ca) % 18446744073709551616) ((q * y + ch) % 18446744073709551616 + bo)) ∧ Apart g w w' := by
  have HM := hide h
  obtain ⟨c0, c1, c2, c3, c4, f2, f3, f4⟩ := h.cells
  have H1 := hide (fun w => mulAdd_any p x 0 ca hp hx ⟨by decide, by decide⟩ hca w)
  have H2 := hide (fun w => mulAdd_any q y 0 ch hq hy ⟨by decide, by decide⟩ hch w)
  have m1 := mul_word_lt hp hx
  have m2 := mul_word_lt hq hy
  rw [show p * x + 0 + ca = p * x + ca by omega] at H1
  rw [show q * y + 0 + ch = q * y + ch by omega] at H2
  obtain ⟨s1, e1⟩ : ∃ s, p * x + ca = s := ⟨_, rfl⟩
  obtain ⟨s2, e2⟩ : ∃ s, q * y + ch = s := ⟨_, rfl⟩
  rw [e1] at H1 ⊢
  rw [e2] at H2 ⊢
  have sS := sub64 (s1 % 18446744073709551616) (s2 % 18446744073709551616) bo (by omega) (by omega) (by omega) hb0 hb1
  obtain ⟨hx0, hx1⟩ := hx
  obtain ⟨hy0, hy1⟩ := hy
  clear h e1 e2 m1 m2 hp hq hca hch
  go_enter Tryd.func105, Tryd.ntmps105
  go_wp2_with fail
  go_region_with (go_at_call 73; refine (unhide H1 _).mono ?_; rintro e w' ⟨rfl, rfl⟩)
  all_goals
    go_wp2_with fail
    go_region_with (go_at_call 73; refine (unhide H2 _).mono ?_; rintro e w' ⟨rfl, rfl⟩)
  all_goals
    go_wp2
    go_ret
    refine ⟨rfl, ?_, ?_⟩
    · exact ((MixIs.set4 (MixIs.set3 (MixIs.set2 (unhide HM)))).drew).drew
    · exact ((Apart.set (Apart.set (Apart.set (Apart.refl _ _) _ _) _ _) _ _).drew).drew
end Go.Proofs.YtdicbnchkfclaaaDoor
/- A statement whose loads may be taken first, for what writes their cells waits for them: the laws. -/
namespace Go.Proofs.YtdicbnchkfclaaaDoor
open Go.RowKit Go.Sort Go.Shelf

section
variable {P : Program} {ops : Array Oper} {Q : Exit → Act → World → Prop} {md : Region.Mode} {C : World → Prop} {st : Nat}

/-- Whatever order is picked; C holds behind every operation till number st has come up. -/
def wpTill (P : Program) (md : Region.Mode) (ops : Array Oper) (Q : Exit → Act → World → Prop) (C : World → Prop) (st : Nat) : Nat → Array Bool → Act → World → Prop
  | 0, listed, a, w => Region.ready md ops listed = [] ∧ Q .normal a w
  | fuel + 1, listed, a, w => (Region.ready md ops listed = [] → Q .normal a w) ∧
      ∀ i ∈ Region.ready md ops listed, wpOp P ops Q i (fun a' w' => ((listed.setIfInBounds i true).getD st true = false → C w') ∧ wpTill P md ops Q C st fuel (listed.setIfInBounds i true) a' w') a w

theorem wpAny_of_till : ∀ (fuel : Nat) (listed : Array Bool) (a : Act) (w : World), wpTill P md ops Q C st fuel listed a w → wpAny P md ops Q fuel listed a w
  | 0, _, _, _, h => h
  | fuel + 1, _, _, _, h => ⟨h.1, fun i hi => wpOp_mono (fun a' w' h' => wpAny_of_till fuel _ a' w' h'.2) (h.2 i hi)⟩

/-- Number st waits for number i. -/
def waits (md : Region.Mode) (ops : Array Oper) (st i : Nat) : Bool := match ops[st]? with
  | some o => o.after.any fun e => Region.binds md e && e.on == i
  | none => false

theorem not_ready_st {i : Nat} {listed : Array Bool} (hw : waits md ops st i = true) (hi : listed.getD i true = false) : st ∉ Region.ready md ops listed := fun h => by
  obtain ⟨_, o, ho, hall⟩ := mem_ready.1 h
  unfold waits at hw
  simp only [ho] at hw
  rw [Array.any_eq_true] at hw
  obtain ⟨k, hk, he⟩ := hw
  rw [Bool.and_eq_true, beq_iff_eq] at he
  have h1 := hall _ (Array.getElem_mem hk) he.1
  rw [he.2] at h1
  rcases Nat.lt_or_ge i listed.size with h' | h'
  · simp [h'] at hi h1; rw [hi] at h1; cases h1
  · simp [Array.getElem?_eq_none h'] at h1

theorem wpTill_first {i : Nat} {oi : Oper} {v : Value} (hi : ops[i]? = some oi) (hsel : ∀ (j : Nat) (o : Oper) cs b, ops[j]? = some o → o.op ≠ .select cs b)
    (hQ : ∀ c a w, Q (.panic c) (a.put oi.dst v) w → Q (.panic c) a w) (hw : waits md ops st i = true) (hne : i ≠ st) :
    ∀ (fuel : Nat) (listed : Array Bool) (a : Act) (w : World),
      (∀ j oj, ops[j]? = some oj → j ≠ i → listed.getD j true = false → (∀ e ∈ oj.after, Region.binds md e = true → e.on ≠ i) → oi.apart ops oj = true) →
      i ∈ Region.ready md ops listed → listed.getD st true = false → YieldsIf P ops C oi v a → C w →
      wpTill P md ops Q C st fuel (listed.setIfInBounds i true) (a.put oi.dst v) w → wpTill P md ops Q C st (fuel + 1) listed a w := by
  intro fuel
  induction fuel with
  | zero =>
    intro listed a w _ hr _ hy hC H
    refine ⟨fun h => (by rw [h] at hr; cases hr), fun j hj => ?_⟩
    rcases Decidable.em (j = i) with rfl | hji
    · exact hy.wpOp hi hC ⟨fun _ => hC, H⟩
    · have := ready_mono hj hji
      rw [H.1] at this
      cases this
  | succ fuel ih =>
    intro listed a w hfree hr hst hy hC H
    refine ⟨fun h => (by rw [h] at hr; cases hr), fun j hj => ?_⟩
    rcases Decidable.em (j = i) with rfl | hji
    · exact hy.wpOp hi hC ⟨fun _ => hC, H⟩
    · have hi0 := (mem_ready.1 hr).1
      have hjst : j ≠ st := fun e => by subst e; exact not_ready_st hw hi0 hj
      have h1 := H.2 j (ready_mono hj hji)
      obtain ⟨hjun, oj, hoj, hall⟩ := mem_ready.1 hj
      have hnot : ∀ e ∈ oj.after, Region.binds md e = true → e.on ≠ i := fun e he hb heq => by
        have h2 := hall e he hb
        rw [heq] at h2
        rcases Nat.lt_or_ge i listed.size with h' | h'
        · simp [h'] at hi0 h2; rw [hi0] at h2; cases h2
        · simp [Array.getElem?_eq_none h'] at h2
      have h2 := wpOp_putIf hoj (hfree j oj hoj hji hjun hnot) (fun cs b => hsel i oi cs b hi) (fun cs b => hsel j oj cs b hoj) hQ hy h1
      have e1 : (listed.setIfInBounds j true).getD st true = false := by rw [getD_set_ne true hjst]; exact hst
      have e2 : ((listed.setIfInBounds i true).setIfInBounds j true).getD st true = false := by rw [getD_set_ne true hjst, getD_set_ne true hne]; exact hst
      refine wpOp_mono (fun a' w' h3 => ?_) h2
      have hC' := h3.2.1 e2
      refine ⟨fun _ => hC', ih (listed.setIfInBounds j true) a' w' (fun k ok hk hki hun hno => ?_) (ready_mono hr (Ne.symm hji)) e1 h3.1 hC' ?_⟩
      · refine hfree k ok hk hki ?_ hno
        rcases Decidable.em (j = k) with rfl | hjk
        · exact hjun
        · rw [getD_set_ne true hjk] at hun; exact hun
      · rw [Array.setIfInBounds_comm _ _ hji]
        exact h3.2.2

theorem wpTill_take {i : Nat} {oi : Oper} {v : Value} {fuel : Nat} {listed : Array Bool} {a : Act} {w : World} (hi : ops[i]? = some oi)
    (hs : Region.noSelect ops = true) (hf : Region.free md ops listed i = true) (hr : (Region.ready md ops listed).contains i = true) (hw : waits md ops st i = true) (hne : (i != st) = true) (hst : listed.getD st true = false)
    (hQ : ∀ c a w, Q (.panic c) (a.put oi.dst v) w → Q (.panic c) a w) (hy : YieldsIf P ops C oi v a) (hC : C w)
    (h : wpTill P md ops Q C st fuel (listed.setIfInBounds i true) (a.put oi.dst v) w) : wpTill P md ops Q C st (fuel + 1) listed a w :=
  wpTill_first hi (Region.noSelect_spec hs) hQ hw (by simpa using hne) fuel listed a w (Region.free_spec hi hf) (by simpa using hr) hst hy hC h

/-- What yields in whatever world may be taken first whoever waits for it. -/
theorem wpTill_pure_first {i : Nat} {oi : Oper} {v : Value} (hi : ops[i]? = some oi) (hsel : ∀ (j : Nat) (o : Oper) cs b, ops[j]? = some o → o.op ≠ .select cs b)
    (hQ : ∀ c a w, Q (.panic c) (a.put oi.dst v) w → Q (.panic c) a w) (hne : i ≠ st) :
    ∀ (fuel : Nat) (listed : Array Bool) (a : Act) (w : World),
      (∀ j oj, ops[j]? = some oj → j ≠ i → listed.getD j true = false → (∀ e ∈ oj.after, Region.binds md e = true → e.on ≠ i) → oi.apart ops oj = true) →
      i ∈ Region.ready md ops listed → YieldsIf P ops (fun _ => True) oi v a → (listed.getD st true = false → C w) →
      wpTill P md ops Q C st fuel (listed.setIfInBounds i true) (a.put oi.dst v) w → wpTill P md ops Q C st (fuel + 1) listed a w := by
  intro fuel
  induction fuel with
  | zero =>
    intro listed a w _ hr hy hC H
    refine ⟨fun h => (by rw [h] at hr; cases hr), fun j hj => ?_⟩
    rcases Decidable.em (j = i) with rfl | hji
    · exact hy.wpOp hi trivial ⟨fun h => hC (by rw [getD_set_ne true hne] at h; exact h), H⟩
    · have := ready_mono hj hji
      rw [H.1] at this
      cases this
  | succ fuel ih =>
    intro listed a w hfree hr hy hC H
    refine ⟨fun h => (by rw [h] at hr; cases hr), fun j hj => ?_⟩
    rcases Decidable.em (j = i) with rfl | hji
    · exact hy.wpOp hi trivial ⟨fun h => hC (by rw [getD_set_ne true hne] at h; exact h), H⟩
    · have hi0 := (mem_ready.1 hr).1
      have h1 := H.2 j (ready_mono hj hji)
      obtain ⟨hjun, oj, hoj, hall⟩ := mem_ready.1 hj
      have hnot : ∀ e ∈ oj.after, Region.binds md e = true → e.on ≠ i := fun e he hb heq => by
        have h2 := hall e he hb
        rw [heq] at h2
        rcases Nat.lt_or_ge i listed.size with h' | h'
        · simp [h'] at hi0 h2; rw [hi0] at h2; cases h2
        · simp [Array.getElem?_eq_none h'] at h2
      have h2 := wpOp_putIf hoj (hfree j oj hoj hji hjun hnot) (fun cs b => hsel i oi cs b hi) (fun cs b => hsel j oj cs b hoj) hQ hy h1
      refine wpOp_mono (fun a' w' h3 => ?_) h2
      have hC' : (listed.setIfInBounds j true).getD st true = false → C w' := fun h => h3.2.1 (by
        rw [Array.setIfInBounds_comm _ _ (Ne.symm hji), getD_set_ne true hne]; exact h)
      refine ⟨hC', ih (listed.setIfInBounds j true) a' w' (fun k ok hk hki hun hno => ?_) (ready_mono hr (Ne.symm hji)) h3.1 hC' ?_⟩
      · refine hfree k ok hk hki ?_ hno
        rcases Decidable.em (j = k) with rfl | hjk
        · exact hjun
        · rw [getD_set_ne true hjk] at hun; exact hun
      · rw [Array.setIfInBounds_comm _ _ hji]
        exact h3.2.2

theorem wpTill_pure {i : Nat} {oi : Oper} {v : Value} {fuel : Nat} {listed : Array Bool} {a : Act} {w : World} (hi : ops[i]? = some oi)
    (hs : Region.noSelect ops = true) (hf : Region.free md ops listed i = true) (hr : (Region.ready md ops listed).contains i = true) (hne : (i != st) = true)
    (hQ : ∀ c a w, Q (.panic c) (a.put oi.dst v) w → Q (.panic c) a w) (hy : YieldsIf P ops (fun _ => True) oi v a) (hC : listed.getD st true = false → C w)
    (h : wpTill P md ops Q C st fuel (listed.setIfInBounds i true) (a.put oi.dst v) w) : wpTill P md ops Q C st (fuel + 1) listed a w :=
  wpTill_pure_first hi (Region.noSelect_spec hs) hQ (by simpa using hne) fuel listed a w (Region.free_spec hi hf) (by simpa using hr) hy hC h

/-- One alone may come up. -/
theorem wpTill_one {k : Nat} {o : Oper} {fuel : Nat} {listed : Array Bool} {a : Act} {w : World} (hr : Region.ready md ops listed = [k]) (ho : ops[k]? = some o)
    (h : ∀ K' : Act → World → Prop, Shut (∀ a w, ((listed.setIfInBounds k true).getD st true = false → C w) → wpTill P md ops Q C st fuel (listed.setIfInBounds k true) a w → K' a w) → if Region.wanted o (yielded ops a.tmps) = true then Oper.wp P o a w K' Q else K' (a.put o.dst undef) w) :
    wpTill P md ops Q C st (fuel + 1) listed a w := by
  refine ⟨fun h0 => (by rw [hr] at h0; cases h0), fun i hi => ?_⟩
  rw [hr] at hi
  obtain rfl := List.mem_singleton.1 hi
  exact wpOp_step ho (fun K' hK => h K' (fun a w hS hW => hK a w ⟨hS, hW⟩))

theorem wpTill_done {listed : Array Bool} {a : Act} {w : World} (hr : Region.ready md ops listed = []) (h : Q .normal a w) : ∀ fuel, wpTill P md ops Q C st fuel listed a w
  | 0 => ⟨hr, h⟩
  | _ + 1 => ⟨fun _ => h, by rw [hr]; simp⟩

theorem wp_region_till {id : Nat} {a : Act} {w : World} (C : World → Prop) (st : Nat) (hm : P.follows .mixedOrders = true) (h : wpTill P .any ops Q C st ops.size (Array.replicate ops.size false) a w.drew) : (Code.region id ops true).wp P Q a w :=
  wp_region_any hm (wpAny_of_till _ _ _ _ h)
end
end Go.Proofs.YtdicbnchkfclaaaDoor
