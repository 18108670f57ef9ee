/- Rows of numbers of the call's own beside fractions; a row put in order. -/
import Derived.Test.YtbboacmjbffmhaaGreatDoorS10
namespace Go.Proofs.YtbboacmjbffmhaaGreatDoor
open Go.RowKit Go.Sort Go.Shelf

/-- The cells of a row of numbers. -/
def lrow (lf : Nat → Int) (n : Nat) : List Value := (List.range n).map fun j => .int .i64 (lf j)
theorem lrow_length (lf : Nat → Int) (n : Nat) : (lrow lf n).length = n := by simp [lrow]
theorem lrow_get (lf : Nat → Int) {n j : Nat} (h : j < n) : (lrow lf n)[j]? = some (.int .i64 (lf j)) := by simp [lrow, h]
def updI (f : Nat → Int) (j : Nat) (v : Int) : Nat → Int := fun i => if i = j then v else f i
theorem lrow_set (lf : Nat → Int) {n j : Nat} (v : Int) : (lrow lf n).set j (.int .i64 v) = lrow (updI lf j v) n := by
  apply List.ext_getElem?
  intro i
  unfold lrow updI
  rw [List.getElem?_set]
  by_cases h : j = i
  · subst h
    by_cases hj : j < n <;> simp [hj]
  · by_cases hi : i < n <;> simp [h, hi, Ne.symm h]
theorem lrow_congr {f g : Nat → Int} {n : Nat} (h : ∀ j, j < n → f j = g j) : lrow f n = lrow g n := by
  unfold lrow
  exact List.map_congr_left fun j hj => by rw [h j (List.mem_range.1 hj)]

/-- Block G is the row. -/
def OwnI (w : World) (G n : Nat) (lf : Nat → Int) : Prop := w.heap[G]? = some (.cells (lrow lf n).toArray 3)
theorem OwnI.lt {w : World} {G n : Nat} {lf : Nat → Int} (h : OwnI w G n lf) : G < w.heap.size := (Array.getElem?_eq_some_iff.1 h).1
theorem OwnI.keep {w w' : World} {G n : Nat} {lf : Nat → Int} (h : OwnI w G n lf) (hb : Below w.heap.size w w') : OwnI w' G n lf := by
  unfold OwnI; rw [hb.block G h.lt]; exact h
theorem OwnI.cell {w : World} {G n : Nat} {lf : Nat → Int} (h : OwnI w G n lf) {j : Nat} (hj : j < n) : w.cell? ⟨G, j, none⟩ = some (.int .i64 (lf j)) := by
  unfold OwnI at h
  simp only [World.cell?, h]
  have := lrow_get lf hj
  simpa using this
theorem OwnI.free {w : World} {G n : Nat} {lf : Nat → Int} (h : OwnI w G n lf) (j : Nat) : w.frozen? ⟨G, j, none⟩ = false := by
  unfold OwnI at h; simp [World.frozen?, h]
theorem OwnI.set {w : World} {G n : Nat} {lf : Nat → Int} (h : OwnI w G n lf) (j : Nat) (v : Int) : OwnI (w.setCell ⟨G, j, none⟩ (.int .i64 v)) G n (updI lf j v) := by
  unfold OwnI at h ⊢
  rw [setCell_eq]
  simp only [mapBlock, Array.getElem?_modify, h, if_true, Option.map_some, onCells]
  rw [← lrow_set]
  simp
theorem OwnI.congr {w : World} {G n : Nat} {f g : Nat → Int} (h : OwnI w G n f) (e : ∀ j, j < n → f j = g j) : OwnI w G n g := by
  unfold OwnI at h ⊢; rw [← lrow_congr e]; exact h

theorem Tryz.infoI : (Tryz.prog.info? 3).map (fun i => (i.zero, i.size, i.bytes)) = some (some (.int .i64 0), 1, 8) := by kernel_rfl
theorem make_ints (k : Nat) (h1 : k ≤ 1099511627776) (w : World) :
    (Instr.makeSlice 32 (.int .i64 (k : Int)) (.int .i64 (k : Int))).run Tryz.prog w = .ok (.slice (some ⟨w.heap.size, 0, none⟩) k k) (w.alloc (.cells (lrow (fun _ => 0) k).toArray 3)) := by
  obtain ⟨i, hi, hz0, hz1, hz2⟩ := info_parts Tryz.infoI
  have e : madeCells (Value.int .i64 0).cells ((k : Int).toNat * i.size) = (lrow (fun _ => 0) k).toArray := by
    rw [hz1]
    apply Array.ext
    · simp [madeCells, lrow]
    · intro j h1 h2
      simp [madeCells, lrow, Value.cells, Nat.mod_one]
  rw [run_make w 32 3 i (.int .i64 0) Tryz.underlying32 hi hz0 .i64 .i64 k k (by omega) (Int.le_refl _) (by rw [hz2]; omega) (by omega), e]
  simp
theorem make_own (w : World) (k : Nat) : OwnI (w.alloc (.cells (lrow (fun _ => 0) k).toArray 3)) w.heap.size k (fun _ => 0) := heap_alloc_new w _
theorem lrow_noWord {lf : Nat → Int} {n : Nat} {T : TypeId} {fr : Nat × Nat} : NoWord (.cells (lrow lf n).toArray T fr) := by
  intro cs T' fr' e j x
  injection e with e
  subst e
  intro hx
  have hx' : (lrow lf n)[j]? = some (.int .u64 x) := by simpa using hx
  unfold lrow at hx'
  rw [List.getElem?_map] at hx'
  cases h : (List.range n)[j]? with
  | none => rw [h] at hx'; cases hx'
  | some k => rw [h] at hx'; cases hx'
theorem OwnI.keptBy {w w' : World} {G n : Nat} {lf : Nat → Int} (h : OwnI w G n lf) (e : w'.heap[G]? = w.heap[G]?) : OwnI w' G n lf := by unfold OwnI; rw [e]; exact h
theorem RatIs.ints {w : World} {g n j : Nat} {x : Int} {lf : Nat → Int} {v : Value} {q : Rat} (h : RatIs w v q) (hg : OwnI w g n lf) : RatIs (w.setCell ⟨g, j, none⟩ (.int .i64 x)) v q :=
  h.other hg lrow_noWord (by simp [World.setCell]) (fun k hk => Below.heap_setCell _ _ _ _ hk)
theorem SumsAt.ints {w wr : World} {g n j G : Nat} {x : Int} {lf : Nat → Int} {us : List Tri} {qs : List Rat} (h : SumsAt w wr G us qs) (hg : OwnI wr g n lf) (hne : G ≠ g) (hge : w.heap.size ≤ g) : SumsAt w (wr.setCell ⟨g, j, none⟩ (.int .i64 x)) G us qs :=
  ⟨by rw [Below.heap_setCell _ _ _ _ hne]; exact h.row, h.len, fun j hj => (h.rat j hj).ints hg, h.bl.setCell hge _, h.gl⟩

/-- Falling up to i; falling but for one place. -/
def Srt (k : Nat → Rat) (f : Nat → Nat) (i : Nat) : Prop := ∀ p q, p < q → q < i → k (f q) ≤ k (f p)
def Flo (k : Nat → Rat) (f : Nat → Nat) (i j : Nat) : Prop := (∀ p q, p < q → q ≤ i → p ≠ j → q ≠ j → k (f q) ≤ k (f p)) ∧ (∀ q, j < q → q ≤ i → k (f q) ≤ k (f j))
def swp (f : Nat → Nat) (a b : Nat) : Nat → Nat := fun i => if i = a then f b else if i = b then f a else f i
theorem swp_a (f : Nat → Nat) (a b : Nat) : swp f a b a = f b := by simp [swp]
theorem swp_b (f : Nat → Nat) {a b : Nat} (h : a ≠ b) : swp f a b b = f a := by simp [swp, Ne.symm h]
theorem swp_o (f : Nat → Nat) {a b i : Nat} (h : i ≠ a) (h' : i ≠ b) : swp f a b i = f i := by simp [swp, h, h']
theorem swp_lt {f : Nat → Nat} {a b n : Nat} (h : ∀ i, i < n → f i < n) (ha : a < n) (hb : b < n) : ∀ i, i < n → swp f a b i < n := fun i hi => by
  unfold swp
  split
  · exact h b hb
  · split
    · exact h a ha
    · exact h i hi
theorem swp_ints (f : Nat → Nat) {a b : Nat} (h : a ≠ b) : updI (updI (fun i => ((f i : Nat) : Int)) a (f b)) b (f a) = fun i => ((swp f a b i : Nat) : Int) := by
  funext i
  unfold updI swp
  by_cases h1 : i = b
  · rw [if_pos h1]
    by_cases h2 : i = a
    · exact absurd (h2.symm.trans h1) h
    · rw [if_neg h2, if_pos h1]
  · rw [if_neg h1]
    by_cases h2 : i = a
    · rw [if_pos h2, if_pos h2]
    · rw [if_neg h2, if_neg h2, if_neg h1]
theorem flo_start {k : Nat → Rat} {f : Nat → Nat} {i : Nat} (h : Srt k f i) : Flo k f i i :=
  ⟨fun p q hpq hq hp hq' => h p q hpq (by omega), fun q h1 h2 => by omega⟩
theorem flo_step {k : Nat → Rat} {f : Nat → Nat} {i m : Nat} (h : Flo k f i (m + 1)) (hi : m + 1 ≤ i) (hlt : k (f m) < k (f (m + 1))) : Flo k (swp f (m + 1) m) i m := by
  have hne : m + 1 ≠ m := by omega
  refine ⟨fun p q hpq hq hp hq' => ?_, fun q h1 h2 => ?_⟩
  · by_cases e1 : p = m + 1
    · subst e1
      rw [swp_a, swp_o f (by omega) hq']
      exact h.1 m q (by omega) hq (by omega) (by omega)
    · rw [swp_o f e1 hp]
      by_cases e2 : q = m + 1
      · subst e2
        rw [swp_a]
        exact h.1 p m (by omega) (by omega) e1 (by omega)
      · rw [swp_o f e2 hq']
        exact h.1 p q hpq hq e1 e2
  · rw [swp_b f hne]
    by_cases e2 : q = m + 1
    · subst e2
      rw [swp_a]
      exact Rat.le_of_lt hlt
    · rw [swp_o f e2 (by omega)]
      exact h.2 q (by omega) h2
theorem flo_stop {k : Nat → Rat} {f : Nat → Nat} {i j : Nat} (h : Flo k f i j) (hj : j ≤ i) (hs : j = 0 ∨ k (f j) ≤ k (f (j - 1))) : Srt k f (i + 1) := fun p q hpq hq => by
  by_cases e1 : p = j
  · subst e1; exact h.2 q hpq (by omega)
  · by_cases e2 : q = j
    · subst e2
      rcases hs with hs | hs
      · omega
      · by_cases e3 : p = q - 1
        · rw [e3]; exact hs
        · exact Rat.le_trans hs (h.1 p (q - 1) (by omega) (by omega) e1 (by omega))
    · exact h.1 p q hpq (by omega) e1 e2

/-- What a sort leaves: the row in falling order. -/
def SortPost (w0 : World) (g n : Nat) (k : Nat → Rat) (Inv : World → Prop) (e : Ending) (w' : World) : Prop :=
  e = .returned (.tuple #[]) ∧ ∃ f : Nat → Nat, OwnI w' g n (fun i => ((f i : Nat) : Int)) ∧ (∀ i, i < n → f i < n) ∧ Srt k f n ∧ Below w0.heap.size w0 w' ∧ Inv w'
structure CmpInv (g n : Nat) (k : Nat → Rat) (pa : Addr) (Inv : World → Prop) : Prop where
  keep : ∀ W W', Inv W → Below W.heap.size W W' → Inv W'
  set : ∀ W j x lf, Inv W → OwnI W g n lf → Inv (W.setCell ⟨g, j, none⟩ (.int .i64 x))
  cmp : ∀ (a b : Nat) W, a < n → b < n → Inv W → Calls Tryz.prog 21 #[.int .i64 (a : Int), .int .i64 (b : Int), .pointer (some pa)] W fun e w' => e = .returned (.int .i64 (cmpv (k b) (k a))) ∧ Below W.heap.size W w'

set_option maxHeartbeats 8000000 in
set_option maxRecDepth 100000 in
set_option linter.unusedSimpArgs false in
theorem insertion_any (g n : Nat) (f : Nat → Nat) (k : Nat → Rat) (pa : Addr) (w0 w : World) (Inv : World → Prop) (CI : CmpInv g n k pa Inv) (hn : n ≤ 5) (hn0 : 0 < n) (hf : ∀ i, i < n → f i < n) (hg : OwnI w g n (fun i => ((f i : Nat) : Int))) (hbl : Below w0.heap.size w0 w) (hge : w0.heap.size ≤ g) (hI : Inv w) :
    Calls Tryz.prog 56 #[.slice (some ⟨g, 0, none⟩) n n, .int .i64 0, .int .i64 (n : Int), .func (.func 21) #[] #[.pointer (some pa)]] w (SortPost w0 g n k Inv) := by
  have HCI := hide CI
  have HF := hide hf
  have HG := hide hg
  have HBL := hide hbl
  have HGE := hide hge
  have HI := hide hI
  clear CI hf hg hbl hge hI
  have HN0 := hide hn0
  have n0 : (1 : Int) ≤ (n : Int) := by omega
  clear hn0
  go_enter Tryz.func56, Tryz.ntmps56
  go_wp2_with fail
  go_loopw [8] (fun vi wr => ∃ (i : Nat) (f : Nat → Nat), vi = .int .i64 (i : Int) ∧ 1 ≤ i ∧ i ≤ n ∧ OwnI wr g n (fun i => ((f i : Nat) : Int)) ∧ (∀ i, i < n → f i < n) ∧ Srt k f i ∧ Below w0.heap.size w0 wr ∧ Inv wr) (fun vi _ => n - (intOf vi).toNat)
  case atStart => exact ⟨1, f, rfl, Nat.le_refl _, unhide HN0, unhide HG, unhide HF, fun p q h1 h2 => by omega, unhide HBL, unhide HI⟩
  case round =>
    obtain ⟨i, f', rfl, hi1, hi, own, hf', hsrt, hbl, hI⟩ := hrel
    have HOWN := hide own
    have HF' := hide hf'
    have HFL := hide (flo_start hsrt)
    have HSR := hide hsrt
    have HBL' := hide hbl
    have HI' := hide hI
    clear own hf' hsrt hbl hI HG HF HI HBL
    by_cases hlt : i < n
    · have e1 : (i : Int) < (n : Int) := by omega
      have e3 : IntKind.i64.wrap ((i : Int) + 1) = (i : Int) + 1 := by rw [IntKind.wrap_i64]; omega
      go_wp2_with fail
      go_loopw [9] (fun vj wr => ∃ (j : Nat) (f : Nat → Nat), vj = .int .i64 (j : Int) ∧ j ≤ i ∧ OwnI wr g n (fun i => ((f i : Nat) : Int)) ∧ (∀ i, i < n → f i < n) ∧ Flo k f i j ∧ Below w0.heap.size w0 wr ∧ Inv wr) (fun vj _ => (intOf vj).toNat)
      case atStart => exact ⟨i, f', rfl, Nat.le_refl _, unhide HOWN, unhide HF', unhide HFL, unhide HBL', unhide HI'⟩
      case round =>
        obtain ⟨j, fj, rfl, hj, own, hfj, hfl, hbl, hI⟩ := hrel
        have HOJ := hide own
        have HFJ := hide hfj
        have HFLJ := hide hfl
        have HBJ := hide hbl
        have HIJ := hide hI
        clear own hfj hfl hbl hI HOWN HF' HFL HBL' HI' HSR
        by_cases hj0 : 0 < j
        · obtain ⟨m, hm⟩ : ∃ m, j = m + 1 := ⟨j - 1, by omega⟩
          have dj : decide (0 < j) = true := decide_eq_true hj0
          have e4 : IntKind.i64.wrap ((j : Int) - 1) = (m : Int) := by rw [IntKind.wrap_i64]; omega
          have e5 : (0 : Int) ≤ (j : Int) := by omega
          have e6 : (j : Int) < (n : Int) := by omega
          have e7 : (0 : Int) ≤ (m : Int) := by omega
          have e8 : (m : Int) < (n : Int) := by omega
          have hjn : j < n := by omega
          have hmn : m < n := by omega
          obtain ⟨xj, hxj⟩ : ∃ x, fj j = x := ⟨_, rfl⟩
          obtain ⟨xm, hxm⟩ : ∃ x, fj m = x := ⟨_, rfl⟩
          have cj := (unhide HOJ).cell hjn
          have cm := (unhide HOJ).cell hmn
          rw [hxj] at cj
          rw [hxm] at cm
          have hgl := (unhide HOJ).lt
          have HCC : Hid (∀ W, Below wr.heap.size wr W → (fun w' : World => w'.cell? ⟨g, j, none⟩ = some (.int .i64 (xj : Int)) ∧ w'.cell? ⟨g, m, none⟩ = some (.int .i64 (xm : Int))) W) := fun W hW => ⟨by rw [hW.cell (p := ⟨g, j, none⟩) hgl]; exact cj, by rw [hW.cell (p := ⟨g, m, none⟩) hgl]; exact cm⟩
          have HCM : Hid (∀ W, Below wr.heap.size wr W → Calls Tryz.prog 21 #[.int .i64 (xj : Int), .int .i64 (xm : Int), .pointer (some pa)] W fun e w' => e = .returned (.int .i64 (cmpv (k xm) (k xj))) ∧ Below W.heap.size W w') := fun W hW => (unhide HCI).cmp xj xm W (by rw [← hxj]; exact unhide HFJ j hjn) (by rw [← hxm]; exact unhide HFJ m hmn) ((unhide HCI).keep _ _ (unhide HIJ) hW)
          have HXJ := hide hxj
          have HXM := hide hxm
          have HM := hide hm
          clear cj cm hxj hxm hgl hm hj0
          by_cases hk : k xm < k xj
          · rw [cmpv_lt hk] at HCM
            have HK := hide hk
            clear hk
            go_wp2_with fail
            refine wp_region_hold (fun w' : World => w'.cell? ⟨g, j, none⟩ = some (.int .i64 (xj : Int)) ∧ w'.cell? ⟨g, m, none⟩ = some (.int .i64 (xm : Int))) (by kernel_rfl) ?_
            have bd0 : Below wr.heap.size wr wr.drew := (Below.refl _ _).drew
            have hC0 : (fun w' : World => w'.cell? ⟨g, j, none⟩ = some (.int .i64 (xj : Int)) ∧ w'.cell? ⟨g, m, none⟩ = some (.int .i64 (xm : Int))) wr.drew := unhide HCC _ bd0
            refine wpHold_take (i := 0) (v := ?_) rfl (by kernel_rfl) (by kernel_rfl) (by kernel_rfl) (fun _ _ _ h => h) (Or.inl ⟨by rfl, ?_⟩) hC0 ?_
            rotate_left
            · intro w hSw; clear hSw; go_simp; (try with_reducible rfl)
            (try simp only [List.getElem_toArray, List.getElem_cons_succ, List.getElem_cons_zero])
            (try simp only [Act.put, List.setIfInBounds_toArray, List.set_cons_zero, List.set_cons_succ])
            refine wpHold_take (i := 1) (v := ?_) rfl (by kernel_rfl) (by kernel_rfl) (by kernel_rfl) (fun _ _ _ h => h) (Or.inl ⟨by rfl, ?_⟩) hC0 ?_
            rotate_left
            · intro w hSw; clear hSw; go_simp; (try with_reducible rfl)
            (try simp only [List.getElem_toArray, List.getElem_cons_succ, List.getElem_cons_zero])
            (try simp only [Act.put, List.setIfInBounds_toArray, List.set_cons_zero, List.set_cons_succ])
            refine wpHold_take (i := 2) (v := ?_) rfl (by kernel_rfl) (by kernel_rfl) (by kernel_rfl) (fun _ _ _ h => h) (Or.inl ⟨by rfl, ?_⟩) hC0 ?_
            rotate_left
            · intro w hSw; clear hSw; go_simp; (try with_reducible rfl)
            (try simp only [List.getElem_toArray, List.getElem_cons_succ, List.getElem_cons_zero])
            (try simp only [Act.put, List.setIfInBounds_toArray, List.set_cons_zero, List.set_cons_succ])
            refine wpHold_take (i := 3) (v := ?_) rfl (by kernel_rfl) (by kernel_rfl) (by kernel_rfl) (fun _ _ _ h => h) (Or.inl ⟨by rfl, ?_⟩) hC0 ?_
            rotate_left
            · intro w hSw; clear hSw; go_simp; (try with_reducible rfl)
            (try simp only [List.getElem_toArray, List.getElem_cons_succ, List.getElem_cons_zero])
            (try simp only [Act.put, List.setIfInBounds_toArray, List.set_cons_zero, List.set_cons_succ])
            refine wpHold_take (i := 4) (v := ?_) rfl (by kernel_rfl) (by kernel_rfl) (by kernel_rfl) (fun _ _ _ h => h) (Or.inl ⟨by rfl, ?_⟩) hC0 ?_
            rotate_left
            · intro w hSw; clear hSw; go_simp; (try with_reducible rfl)
            (try simp only [List.getElem_toArray, List.getElem_cons_succ, List.getElem_cons_zero])
            (try simp only [Act.put, List.setIfInBounds_toArray, List.set_cons_zero, List.set_cons_succ])
            refine wpHold_take (i := 5) (v := ?_) rfl (by kernel_rfl) (by kernel_rfl) (by kernel_rfl) (fun _ _ _ h => h) (Or.inl ⟨by rfl, ?_⟩) hC0 ?_
            rotate_left
            · intro w hSw; clear hSw; go_simp; (try with_reducible rfl)
            (try simp only [List.getElem_toArray, List.getElem_cons_succ, List.getElem_cons_zero])
            (try simp only [Act.put, List.setIfInBounds_toArray, List.set_cons_zero, List.set_cons_succ])
            refine wpHold_take (i := 6) (v := ?_) rfl (by kernel_rfl) (by kernel_rfl) (by kernel_rfl) (fun _ _ _ h => h) (Or.inl ⟨by rfl, ?_⟩) hC0 ?_
            rotate_left
            · intro w hSw; clear hSw; go_simp; (try with_reducible rfl)
            (try simp only [List.getElem_toArray, List.getElem_cons_succ, List.getElem_cons_zero])
            (try simp only [Act.put, List.setIfInBounds_toArray, List.set_cons_zero, List.set_cons_succ])
            refine wpHold_take (i := 7) (v := ?_) rfl (by kernel_rfl) (by kernel_rfl) (by kernel_rfl) (fun _ _ _ h => h) (Or.inl ⟨by rfl, ?_⟩) hC0 ?_
            rotate_left
            · intro w hSw; clear hSw; go_simp; (try with_reducible rfl)
            (try simp only [List.getElem_toArray, List.getElem_cons_succ, List.getElem_cons_zero])
            (try simp only [Act.put, List.setIfInBounds_toArray, List.set_cons_zero, List.set_cons_succ])
            refine wpHold_take (i := 8) (v := ?_) rfl (by kernel_rfl) (by kernel_rfl) (by kernel_rfl) (fun _ _ _ h => h) (Or.inl ⟨by rfl, ?_⟩) hC0 ?_
            rotate_left
            · intro w hSw; (try dsimp only at hSw); obtain ⟨z0, z1⟩ := hSw; go_simp; (try with_reducible rfl)
            (try simp only [List.getElem_toArray, List.getElem_cons_succ, List.getElem_cons_zero])
            (try simp only [Act.put, List.setIfInBounds_toArray, List.set_cons_zero, List.set_cons_succ])
            refine wpHold_take (i := 9) (v := ?_) rfl (by kernel_rfl) (by kernel_rfl) (by kernel_rfl) (fun _ _ _ h => h) (Or.inl ⟨by rfl, ?_⟩) hC0 ?_
            rotate_left
            · intro w hSw; clear hSw; go_simp; (try with_reducible rfl)
            (try simp only [List.getElem_toArray, List.getElem_cons_succ, List.getElem_cons_zero])
            (try simp only [Act.put, List.setIfInBounds_toArray, List.set_cons_zero, List.set_cons_succ])
            refine wpHold_take (i := 10) (v := ?_) rfl (by kernel_rfl) (by kernel_rfl) (by kernel_rfl) (fun _ _ _ h => h) (Or.inl ⟨by rfl, ?_⟩) hC0 ?_
            rotate_left
            · intro w hSw; clear hSw; go_simp; (try with_reducible rfl)
            (try simp only [List.getElem_toArray, List.getElem_cons_succ, List.getElem_cons_zero])
            (try simp only [Act.put, List.setIfInBounds_toArray, List.set_cons_zero, List.set_cons_succ])
            refine wpHold_take (i := 11) (v := ?_) rfl (by kernel_rfl) (by kernel_rfl) (by kernel_rfl) (fun _ _ _ h => h) (Or.inl ⟨by rfl, ?_⟩) hC0 ?_
            rotate_left
            · intro w hSw; clear hSw; go_simp; (try with_reducible rfl)
            (try simp only [List.getElem_toArray, List.getElem_cons_succ, List.getElem_cons_zero])
            (try simp only [Act.put, List.setIfInBounds_toArray, List.set_cons_zero, List.set_cons_succ])
            refine wpHold_take (i := 12) (v := ?_) rfl (by kernel_rfl) (by kernel_rfl) (by kernel_rfl) (fun _ _ _ h => h) (Or.inl ⟨by rfl, ?_⟩) hC0 ?_
            rotate_left
            · intro w hSw; clear hSw; go_simp; (try with_reducible rfl)
            (try simp only [List.getElem_toArray, List.getElem_cons_succ, List.getElem_cons_zero])
            (try simp only [Act.put, List.setIfInBounds_toArray, List.set_cons_zero, List.set_cons_succ])
            refine wpHold_take (i := 13) (v := ?_) rfl (by kernel_rfl) (by kernel_rfl) (by kernel_rfl) (fun _ _ _ h => h) (Or.inl ⟨by rfl, ?_⟩) hC0 ?_
            rotate_left
            · intro w hSw; (try dsimp only at hSw); obtain ⟨z0, z1⟩ := hSw; go_simp; (try with_reducible rfl)
            (try simp only [List.getElem_toArray, List.getElem_cons_succ, List.getElem_cons_zero])
            (try simp only [Act.put, List.setIfInBounds_toArray, List.set_cons_zero, List.set_cons_succ])
            refine wpHold_one (k := 14) (by kernel_rfl) rfl (fun K hK => ?_)
            (try simp only [List.getElem_toArray, List.getElem_cons_succ, List.getElem_cons_zero])
            go_simp
            refine (unhide HCM _ bd0).mono ?_
            rintro e xw_1 ⟨rfl, hb_1⟩
            have cc_1 := below_step bd0 hb_1
            have hC_1 : (fun w' : World => w'.cell? ⟨g, j, none⟩ = some (.int .i64 (xj : Int)) ∧ w'.cell? ⟨g, m, none⟩ = some (.int .i64 (xm : Int))) xw_1 := unhide HCC _ cc_1
            refine hK.out _ _ hC_1 ?_
            clear hK K
            (try simp only [Act.put, List.setIfInBounds_toArray, List.set_cons_zero, List.set_cons_succ])
            refine wpHold_take (i := 15) (v := ?_) rfl (by kernel_rfl) (by kernel_rfl) (by kernel_rfl) (fun _ _ _ h => h) (Or.inl ⟨by rfl, ?_⟩) hC_1 ?_
            rotate_left
            · intro w hSw; clear hSw; go_simp; (try with_reducible rfl)
            (try simp only [List.getElem_toArray, List.getElem_cons_succ, List.getElem_cons_zero])
            (try simp only [Act.put, List.setIfInBounds_toArray, List.set_cons_zero, List.set_cons_succ])
            refine wpHold_take (i := 16) (v := ?_) rfl (by kernel_rfl) (by kernel_rfl) (by kernel_rfl) (fun _ _ _ h => h) (Or.inl ⟨by rfl, ?_⟩) hC_1 ?_
            rotate_left
            · intro w hSw; clear hSw; go_simp; (try with_reducible rfl)
            (try simp only [List.getElem_toArray, List.getElem_cons_succ, List.getElem_cons_zero])
            (try simp only [Act.put, List.setIfInBounds_toArray, List.set_cons_zero, List.set_cons_succ])
            refine wpHold_done (by kernel_rfl) ?_ _
            have HBN := hide cc_1
            clear hC0 hC_1 cc_1 hb_1 bd0
            go_wp2_with fail
            have HCC2 : Hid (∀ W, Below xw_1.heap.size xw_1 W → (fun w' : World => w'.cell? ⟨g, j, none⟩ = some (.int .i64 (xj : Int)) ∧ w'.cell? ⟨g, m, none⟩ = some (.int .i64 (xm : Int))) W) := fun W hW => unhide HCC W (below_step (unhide HBN) hW)
            clear HCC HCM
            refine wp_region_till (fun w' : World => w'.cell? ⟨g, j, none⟩ = some (.int .i64 (xj : Int)) ∧ w'.cell? ⟨g, m, none⟩ = some (.int .i64 (xm : Int))) 15 (by kernel_rfl) ?_
            have bd0 : Below xw_1.heap.size xw_1 xw_1.drew := (Below.refl _ _).drew
            have hC0 : (fun w' : World => w'.cell? ⟨g, j, none⟩ = some (.int .i64 (xj : Int)) ∧ w'.cell? ⟨g, m, none⟩ = some (.int .i64 (xm : Int))) xw_1.drew := unhide HCC2 _ bd0
            refine wpTill_pure (i := 0) (v := ?_) rfl (by kernel_rfl) (by kernel_rfl) (by kernel_rfl) (by kernel_rfl) (fun _ _ _ h => h) (Or.inl ⟨by rfl, ?_⟩) (fun _ => hC0) ?_
            rotate_left
            · intro w hSw; clear hSw; go_simp; (try with_reducible rfl)
            (try simp only [List.getElem_toArray, List.getElem_cons_succ, List.getElem_cons_zero])
            (try simp only [Act.put, List.setIfInBounds_toArray, List.set_cons_zero, List.set_cons_succ])
            refine wpTill_pure (i := 1) (v := ?_) rfl (by kernel_rfl) (by kernel_rfl) (by kernel_rfl) (by kernel_rfl) (fun _ _ _ h => h) (Or.inl ⟨by rfl, ?_⟩) (fun _ => hC0) ?_
            rotate_left
            · intro w hSw; clear hSw; go_simp; (try with_reducible rfl)
            (try simp only [List.getElem_toArray, List.getElem_cons_succ, List.getElem_cons_zero])
            (try simp only [Act.put, List.setIfInBounds_toArray, List.set_cons_zero, List.set_cons_succ])
            refine wpTill_pure (i := 2) (v := ?_) rfl (by kernel_rfl) (by kernel_rfl) (by kernel_rfl) (by kernel_rfl) (fun _ _ _ h => h) (Or.inl ⟨by rfl, ?_⟩) (fun _ => hC0) ?_
            rotate_left
            · intro w hSw; clear hSw; go_simp; (try with_reducible rfl)
            (try simp only [List.getElem_toArray, List.getElem_cons_succ, List.getElem_cons_zero])
            (try simp only [Act.put, List.setIfInBounds_toArray, List.set_cons_zero, List.set_cons_succ])
            refine wpTill_pure (i := 3) (v := ?_) rfl (by kernel_rfl) (by kernel_rfl) (by kernel_rfl) (by kernel_rfl) (fun _ _ _ h => h) (Or.inl ⟨by rfl, ?_⟩) (fun _ => hC0) ?_
            rotate_left
            · intro w hSw; clear hSw; go_simp; (try with_reducible rfl)
            (try simp only [List.getElem_toArray, List.getElem_cons_succ, List.getElem_cons_zero])
            (try simp only [Act.put, List.setIfInBounds_toArray, List.set_cons_zero, List.set_cons_succ])
            refine wpTill_pure (i := 4) (v := ?_) rfl (by kernel_rfl) (by kernel_rfl) (by kernel_rfl) (by kernel_rfl) (fun _ _ _ h => h) (Or.inl ⟨by rfl, ?_⟩) (fun _ => hC0) ?_
            rotate_left
            · intro w hSw; clear hSw; go_simp; (try with_reducible rfl)
            (try simp only [List.getElem_toArray, List.getElem_cons_succ, List.getElem_cons_zero])
            (try simp only [Act.put, List.setIfInBounds_toArray, List.set_cons_zero, List.set_cons_succ])
            refine wpTill_pure (i := 5) (v := ?_) rfl (by kernel_rfl) (by kernel_rfl) (by kernel_rfl) (by kernel_rfl) (fun _ _ _ h => h) (Or.inl ⟨by rfl, ?_⟩) (fun _ => hC0) ?_
            rotate_left
            · intro w hSw; clear hSw; go_simp; (try with_reducible rfl)
            (try simp only [List.getElem_toArray, List.getElem_cons_succ, List.getElem_cons_zero])
            (try simp only [Act.put, List.setIfInBounds_toArray, List.set_cons_zero, List.set_cons_succ])
            refine wpTill_pure (i := 6) (v := ?_) rfl (by kernel_rfl) (by kernel_rfl) (by kernel_rfl) (by kernel_rfl) (fun _ _ _ h => h) (Or.inl ⟨by rfl, ?_⟩) (fun _ => hC0) ?_
            rotate_left
            · intro w hSw; clear hSw; go_simp; (try with_reducible rfl)
            (try simp only [List.getElem_toArray, List.getElem_cons_succ, List.getElem_cons_zero])
            (try simp only [Act.put, List.setIfInBounds_toArray, List.set_cons_zero, List.set_cons_succ])
            refine wpTill_pure (i := 7) (v := ?_) rfl (by kernel_rfl) (by kernel_rfl) (by kernel_rfl) (by kernel_rfl) (fun _ _ _ h => h) (Or.inl ⟨by rfl, ?_⟩) (fun _ => hC0) ?_
            rotate_left
            · intro w hSw; clear hSw; go_simp; (try with_reducible rfl)
            (try simp only [List.getElem_toArray, List.getElem_cons_succ, List.getElem_cons_zero])
            (try simp only [Act.put, List.setIfInBounds_toArray, List.set_cons_zero, List.set_cons_succ])
            refine wpTill_pure (i := 8) (v := ?_) rfl (by kernel_rfl) (by kernel_rfl) (by kernel_rfl) (by kernel_rfl) (fun _ _ _ h => h) (Or.inl ⟨by rfl, ?_⟩) (fun _ => hC0) ?_
            rotate_left
            · intro w hSw; clear hSw; go_simp; (try with_reducible rfl)
            (try simp only [List.getElem_toArray, List.getElem_cons_succ, List.getElem_cons_zero])
            (try simp only [Act.put, List.setIfInBounds_toArray, List.set_cons_zero, List.set_cons_succ])
            refine wpTill_take (i := 9) (v := ?_) rfl (by kernel_rfl) (by kernel_rfl) (by kernel_rfl) (by kernel_rfl) (by kernel_rfl) (by kernel_rfl) (fun _ _ _ h => h) (Or.inl ⟨by rfl, ?_⟩) hC0 ?_
            rotate_left
            · intro w hSw; (try dsimp only at hSw); obtain ⟨z0, z1⟩ := hSw; go_simp; (try with_reducible rfl)
            (try simp only [List.getElem_toArray, List.getElem_cons_succ, List.getElem_cons_zero])
            (try simp only [Act.put, List.setIfInBounds_toArray, List.set_cons_zero, List.set_cons_succ])
            refine wpTill_pure (i := 10) (v := ?_) rfl (by kernel_rfl) (by kernel_rfl) (by kernel_rfl) (by kernel_rfl) (fun _ _ _ h => h) (Or.inl ⟨by rfl, ?_⟩) (fun _ => hC0) ?_
            rotate_left
            · intro w hSw; clear hSw; go_simp; (try with_reducible rfl)
            (try simp only [List.getElem_toArray, List.getElem_cons_succ, List.getElem_cons_zero])
            (try simp only [Act.put, List.setIfInBounds_toArray, List.set_cons_zero, List.set_cons_succ])
            refine wpTill_pure (i := 11) (v := ?_) rfl (by kernel_rfl) (by kernel_rfl) (by kernel_rfl) (by kernel_rfl) (fun _ _ _ h => h) (Or.inl ⟨by rfl, ?_⟩) (fun _ => hC0) ?_
            rotate_left
            · intro w hSw; clear hSw; go_simp; (try with_reducible rfl)
            (try simp only [List.getElem_toArray, List.getElem_cons_succ, List.getElem_cons_zero])
            (try simp only [Act.put, List.setIfInBounds_toArray, List.set_cons_zero, List.set_cons_succ])
            refine wpTill_pure (i := 12) (v := ?_) rfl (by kernel_rfl) (by kernel_rfl) (by kernel_rfl) (by kernel_rfl) (fun _ _ _ h => h) (Or.inl ⟨by rfl, ?_⟩) (fun _ => hC0) ?_
            rotate_left
            · intro w hSw; clear hSw; go_simp; (try with_reducible rfl)
            (try simp only [List.getElem_toArray, List.getElem_cons_succ, List.getElem_cons_zero])
            (try simp only [Act.put, List.setIfInBounds_toArray, List.set_cons_zero, List.set_cons_succ])
            refine wpTill_take (i := 13) (v := ?_) rfl (by kernel_rfl) (by kernel_rfl) (by kernel_rfl) (by kernel_rfl) (by kernel_rfl) (by kernel_rfl) (fun _ _ _ h => h) (Or.inl ⟨by rfl, ?_⟩) hC0 ?_
            rotate_left
            · intro w hSw; (try dsimp only at hSw); obtain ⟨z0, z1⟩ := hSw; go_simp; (try with_reducible rfl)
            (try simp only [List.getElem_toArray, List.getElem_cons_succ, List.getElem_cons_zero])
            (try simp only [Act.put, List.setIfInBounds_toArray, List.set_cons_zero, List.set_cons_succ])
            refine wpTill_pure (i := 14) (v := ?_) rfl (by kernel_rfl) (by kernel_rfl) (by kernel_rfl) (by kernel_rfl) (fun _ _ _ h => h) (Or.inl ⟨by rfl, ?_⟩) (fun _ => hC0) ?_
            rotate_left
            · intro w hSw; clear hSw; go_simp; (try with_reducible rfl)
            (try simp only [List.getElem_toArray, List.getElem_cons_succ, List.getElem_cons_zero])
            (try simp only [Act.put, List.setIfInBounds_toArray, List.set_cons_zero, List.set_cons_succ])
            have B7 := below_step (unhide HBN) bd0
            have own := (unhide HOJ).keep B7
            have inv := (unhide HCI).keep _ _ (unhide HIJ) B7
            have bl := below_step (unhide HBJ) B7
            have y0 := own.cell hjn
            have l0 := own.free j
            have o1 := own.set j (xm : Int)
            have i1 := (unhide HCI).set _ j (xm : Int) _ inv own
            have b1 := bl.setCell (p := ⟨g, j, none⟩) (unhide HGE) (.int .i64 (xm : Int))
            obtain ⟨W5, hW5⟩ : ∃ W, xw_1.drew.setCell ⟨g, j, none⟩ (.int .i64 (xm : Int)) = W := ⟨_, rfl⟩
            rw [hW5] at o1 i1 b1
            have y1 := o1.cell hmn
            have l1 := o1.free m
            have o2 := o1.set m (xj : Int)
            have i2 := (unhide HCI).set _ m (xj : Int) _ i1 o1
            have b2 := b1.setCell (p := ⟨g, m, none⟩) (unhide HGE) (.int .i64 (xj : Int))
            obtain ⟨W6, hW6⟩ : ∃ W, W5.setCell ⟨g, m, none⟩ (.int .i64 (xj : Int)) = W := ⟨_, rfl⟩
            rw [hW6] at o2 i2 b2
            have HO2 : Hid (OwnI W6 g n (fun i => ((swp fj j m i : Nat) : Int))) := by
              have hm := unhide HM
              rw [← unhide HXM, ← unhide HXJ, swp_ints fj (show j ≠ m by omega)] at o2
              exact o2
            have HI2 := hide i2
            have HB2 := hide b2
            have HFL2 : Hid (Flo k (swp fj j m) i m) := by
              have hm := unhide HM
              have h := unhide HFLJ
              have hk := unhide HK
              rw [← unhide HXM, ← unhide HXJ, hm] at hk
              rw [hm] at h
              rw [hm]
              exact flo_step h (by omega) hk
            have HF2 := hide (swp_lt (unhide HFJ) hjn hmn)
            clear B7 own inv bl o1 i1 b1 o2 i2 b2
            refine wpTill_one (k := 15) (by kernel_rfl) rfl (fun K hK => ?_)
            (try simp only [List.getElem_toArray, List.getElem_cons_succ, List.getElem_cons_zero])
            go_simp
            refine hK.out _ _ (fun h => absurd (h.symm.trans (by kernel_rfl)) Bool.false_ne_true) ?_
            clear hK K
            (try simp only [Act.put, List.setIfInBounds_toArray, List.set_cons_zero, List.set_cons_succ])
            refine wpTill_one (k := 16) (by kernel_rfl) rfl (fun K hK => ?_)
            (try simp only [List.getElem_toArray, List.getElem_cons_succ, List.getElem_cons_zero])
            go_simp
            refine hK.out _ _ (fun h => absurd (h.symm.trans (by kernel_rfl)) Bool.false_ne_true) ?_
            clear hK K
            (try simp only [Act.put, List.setIfInBounds_toArray, List.set_cons_zero, List.set_cons_succ])
            refine wpTill_one (k := 17) (by kernel_rfl) rfl (fun K hK => ?_)
            (try simp only [List.getElem_toArray, List.getElem_cons_succ, List.getElem_cons_zero])
            go_simp
            refine hK.out _ _ (fun h => absurd (h.symm.trans (by kernel_rfl)) Bool.false_ne_true) ?_
            clear hK K
            (try simp only [Act.put, List.setIfInBounds_toArray, List.set_cons_zero, List.set_cons_succ])
            refine wpTill_done (by kernel_rfl) ?_ _
            clear hC0 bd0 HCC2 hW5 hW6 y0 y1 l0 l1 dj
            go_wp2_with fail
            exact ⟨⟨m, swp fj j m, by go_num, by have := unhide HM; omega, unhide HO2, unhide HF2, unhide HFL2, unhide HB2, unhide HI2⟩, by have := unhide HM; simp [intOf]; omega⟩
          · have HCM2 : Hid (∃ x : Int, 0 ≤ x ∧ x ≤ 1 ∧ ∀ W, Below wr.heap.size wr W → Calls Tryz.prog 21 #[.int .i64 (xj : Int), .int .i64 (xm : Int), .pointer (some pa)] W fun e w' => e = .returned (.int .i64 x) ∧ Below W.heap.size W w') := ⟨cmpv (k xm) (k xj), (cmpv_ge (Rat.not_lt.1 hk)).1, (cmpv_ge (Rat.not_lt.1 hk)).2, unhide HCM⟩
            obtain ⟨x, x0, x1, hx⟩ := unhide HCM2
            have HCM := hide hx
            have dx : decide (x < 0) = false := decide_eq_false (by omega)
            have HS : Hid (Srt k fj (i + 1)) := flo_stop (unhide HFLJ) hj (Or.inr (by
              have hm := unhide HM
              rw [show j - 1 = m by omega, unhide HXJ, unhide HXM]
              exact Rat.not_lt.1 hk))
            clear hx HCM2 hk
            go_wp2_with fail
            refine wp_region_hold (fun w' : World => w'.cell? ⟨g, j, none⟩ = some (.int .i64 (xj : Int)) ∧ w'.cell? ⟨g, m, none⟩ = some (.int .i64 (xm : Int))) (by kernel_rfl) ?_
            have bd0 : Below wr.heap.size wr wr.drew := (Below.refl _ _).drew
            have hC0 : (fun w' : World => w'.cell? ⟨g, j, none⟩ = some (.int .i64 (xj : Int)) ∧ w'.cell? ⟨g, m, none⟩ = some (.int .i64 (xm : Int))) wr.drew := unhide HCC _ bd0
            refine wpHold_take (i := 0) (v := ?_) rfl (by kernel_rfl) (by kernel_rfl) (by kernel_rfl) (fun _ _ _ h => h) (Or.inl ⟨by rfl, ?_⟩) hC0 ?_
            rotate_left
            · intro w hSw; clear hSw; go_simp; (try with_reducible rfl)
            (try simp only [List.getElem_toArray, List.getElem_cons_succ, List.getElem_cons_zero])
            (try simp only [Act.put, List.setIfInBounds_toArray, List.set_cons_zero, List.set_cons_succ])
            refine wpHold_take (i := 1) (v := ?_) rfl (by kernel_rfl) (by kernel_rfl) (by kernel_rfl) (fun _ _ _ h => h) (Or.inl ⟨by rfl, ?_⟩) hC0 ?_
            rotate_left
            · intro w hSw; clear hSw; go_simp; (try with_reducible rfl)
            (try simp only [List.getElem_toArray, List.getElem_cons_succ, List.getElem_cons_zero])
            (try simp only [Act.put, List.setIfInBounds_toArray, List.set_cons_zero, List.set_cons_succ])
            refine wpHold_take (i := 2) (v := ?_) rfl (by kernel_rfl) (by kernel_rfl) (by kernel_rfl) (fun _ _ _ h => h) (Or.inl ⟨by rfl, ?_⟩) hC0 ?_
            rotate_left
            · intro w hSw; clear hSw; go_simp; (try with_reducible rfl)
            (try simp only [List.getElem_toArray, List.getElem_cons_succ, List.getElem_cons_zero])
            (try simp only [Act.put, List.setIfInBounds_toArray, List.set_cons_zero, List.set_cons_succ])
            refine wpHold_take (i := 3) (v := ?_) rfl (by kernel_rfl) (by kernel_rfl) (by kernel_rfl) (fun _ _ _ h => h) (Or.inl ⟨by rfl, ?_⟩) hC0 ?_
            rotate_left
            · intro w hSw; clear hSw; go_simp; (try with_reducible rfl)
            (try simp only [List.getElem_toArray, List.getElem_cons_succ, List.getElem_cons_zero])
            (try simp only [Act.put, List.setIfInBounds_toArray, List.set_cons_zero, List.set_cons_succ])
            refine wpHold_take (i := 4) (v := ?_) rfl (by kernel_rfl) (by kernel_rfl) (by kernel_rfl) (fun _ _ _ h => h) (Or.inl ⟨by rfl, ?_⟩) hC0 ?_
            rotate_left
            · intro w hSw; clear hSw; go_simp; (try with_reducible rfl)
            (try simp only [List.getElem_toArray, List.getElem_cons_succ, List.getElem_cons_zero])
            (try simp only [Act.put, List.setIfInBounds_toArray, List.set_cons_zero, List.set_cons_succ])
            refine wpHold_take (i := 5) (v := ?_) rfl (by kernel_rfl) (by kernel_rfl) (by kernel_rfl) (fun _ _ _ h => h) (Or.inl ⟨by rfl, ?_⟩) hC0 ?_
            rotate_left
            · intro w hSw; clear hSw; go_simp; (try with_reducible rfl)
            (try simp only [List.getElem_toArray, List.getElem_cons_succ, List.getElem_cons_zero])
            (try simp only [Act.put, List.setIfInBounds_toArray, List.set_cons_zero, List.set_cons_succ])
            refine wpHold_take (i := 6) (v := ?_) rfl (by kernel_rfl) (by kernel_rfl) (by kernel_rfl) (fun _ _ _ h => h) (Or.inl ⟨by rfl, ?_⟩) hC0 ?_
            rotate_left
            · intro w hSw; clear hSw; go_simp; (try with_reducible rfl)
            (try simp only [List.getElem_toArray, List.getElem_cons_succ, List.getElem_cons_zero])
            (try simp only [Act.put, List.setIfInBounds_toArray, List.set_cons_zero, List.set_cons_succ])
            refine wpHold_take (i := 7) (v := ?_) rfl (by kernel_rfl) (by kernel_rfl) (by kernel_rfl) (fun _ _ _ h => h) (Or.inl ⟨by rfl, ?_⟩) hC0 ?_
            rotate_left
            · intro w hSw; clear hSw; go_simp; (try with_reducible rfl)
            (try simp only [List.getElem_toArray, List.getElem_cons_succ, List.getElem_cons_zero])
            (try simp only [Act.put, List.setIfInBounds_toArray, List.set_cons_zero, List.set_cons_succ])
            refine wpHold_take (i := 8) (v := ?_) rfl (by kernel_rfl) (by kernel_rfl) (by kernel_rfl) (fun _ _ _ h => h) (Or.inl ⟨by rfl, ?_⟩) hC0 ?_
            rotate_left
            · intro w hSw; (try dsimp only at hSw); obtain ⟨z0, z1⟩ := hSw; go_simp; (try with_reducible rfl)
            (try simp only [List.getElem_toArray, List.getElem_cons_succ, List.getElem_cons_zero])
            (try simp only [Act.put, List.setIfInBounds_toArray, List.set_cons_zero, List.set_cons_succ])
            refine wpHold_take (i := 9) (v := ?_) rfl (by kernel_rfl) (by kernel_rfl) (by kernel_rfl) (fun _ _ _ h => h) (Or.inl ⟨by rfl, ?_⟩) hC0 ?_
            rotate_left
            · intro w hSw; clear hSw; go_simp; (try with_reducible rfl)
            (try simp only [List.getElem_toArray, List.getElem_cons_succ, List.getElem_cons_zero])
            (try simp only [Act.put, List.setIfInBounds_toArray, List.set_cons_zero, List.set_cons_succ])
            refine wpHold_take (i := 10) (v := ?_) rfl (by kernel_rfl) (by kernel_rfl) (by kernel_rfl) (fun _ _ _ h => h) (Or.inl ⟨by rfl, ?_⟩) hC0 ?_
            rotate_left
            · intro w hSw; clear hSw; go_simp; (try with_reducible rfl)
            (try simp only [List.getElem_toArray, List.getElem_cons_succ, List.getElem_cons_zero])
            (try simp only [Act.put, List.setIfInBounds_toArray, List.set_cons_zero, List.set_cons_succ])
            refine wpHold_take (i := 11) (v := ?_) rfl (by kernel_rfl) (by kernel_rfl) (by kernel_rfl) (fun _ _ _ h => h) (Or.inl ⟨by rfl, ?_⟩) hC0 ?_
            rotate_left
            · intro w hSw; clear hSw; go_simp; (try with_reducible rfl)
            (try simp only [List.getElem_toArray, List.getElem_cons_succ, List.getElem_cons_zero])
            (try simp only [Act.put, List.setIfInBounds_toArray, List.set_cons_zero, List.set_cons_succ])
            refine wpHold_take (i := 12) (v := ?_) rfl (by kernel_rfl) (by kernel_rfl) (by kernel_rfl) (fun _ _ _ h => h) (Or.inl ⟨by rfl, ?_⟩) hC0 ?_
            rotate_left
            · intro w hSw; clear hSw; go_simp; (try with_reducible rfl)
            (try simp only [List.getElem_toArray, List.getElem_cons_succ, List.getElem_cons_zero])
            (try simp only [Act.put, List.setIfInBounds_toArray, List.set_cons_zero, List.set_cons_succ])
            refine wpHold_take (i := 13) (v := ?_) rfl (by kernel_rfl) (by kernel_rfl) (by kernel_rfl) (fun _ _ _ h => h) (Or.inl ⟨by rfl, ?_⟩) hC0 ?_
            rotate_left
            · intro w hSw; (try dsimp only at hSw); obtain ⟨z0, z1⟩ := hSw; go_simp; (try with_reducible rfl)
            (try simp only [List.getElem_toArray, List.getElem_cons_succ, List.getElem_cons_zero])
            (try simp only [Act.put, List.setIfInBounds_toArray, List.set_cons_zero, List.set_cons_succ])
            refine wpHold_one (k := 14) (by kernel_rfl) rfl (fun K hK => ?_)
            (try simp only [List.getElem_toArray, List.getElem_cons_succ, List.getElem_cons_zero])
            go_simp
            refine (unhide HCM _ bd0).mono ?_
            rintro e xw_1 ⟨rfl, hb_1⟩
            have cc_1 := below_step bd0 hb_1
            have hC_1 : (fun w' : World => w'.cell? ⟨g, j, none⟩ = some (.int .i64 (xj : Int)) ∧ w'.cell? ⟨g, m, none⟩ = some (.int .i64 (xm : Int))) xw_1 := unhide HCC _ cc_1
            refine hK.out _ _ hC_1 ?_
            clear hK K
            (try simp only [Act.put, List.setIfInBounds_toArray, List.set_cons_zero, List.set_cons_succ])
            refine wpHold_take (i := 15) (v := ?_) rfl (by kernel_rfl) (by kernel_rfl) (by kernel_rfl) (fun _ _ _ h => h) (Or.inl ⟨by rfl, ?_⟩) hC_1 ?_
            rotate_left
            · intro w hSw; clear hSw; go_simp; (try with_reducible rfl)
            (try simp only [List.getElem_toArray, List.getElem_cons_succ, List.getElem_cons_zero])
            (try simp only [Act.put, List.setIfInBounds_toArray, List.set_cons_zero, List.set_cons_succ])
            refine wpHold_take (i := 16) (v := ?_) rfl (by kernel_rfl) (by kernel_rfl) (by kernel_rfl) (fun _ _ _ h => h) (Or.inl ⟨by rfl, ?_⟩) hC_1 ?_
            rotate_left
            · intro w hSw; clear hSw; go_simp; (try with_reducible rfl)
            (try simp only [List.getElem_toArray, List.getElem_cons_succ, List.getElem_cons_zero])
            (try simp only [Act.put, List.setIfInBounds_toArray, List.set_cons_zero, List.set_cons_succ])
            refine wpHold_done (by kernel_rfl) ?_ _
            have HBN := hide cc_1
            clear hC0 hC_1 cc_1 hb_1 bd0
            clear dx dj HCC HCM
            go_wp2_with fail
            (try simp only [Exit.inBlock, Exit.then])
            go_wp2_with fail
            exact ⟨⟨i + 1, fj, by go_num, by omega, hlt, (unhide HOJ).keep (unhide HBN), unhide HFJ, unhide HS, below_step (unhide HBJ) (unhide HBN), (unhide HCI).keep _ _ (unhide HIJ) (unhide HBN)⟩, by simp [intOf]; omega⟩
        · obtain rfl : j = 0 := by omega
          have dj : decide ((0 : Int) < ((0 : Nat) : Int)) = false := by decide
          have HCC : Hid (∀ W, Below wr.heap.size wr W → (fun _ : World => True) W) := fun _ _ => trivial
          have HS : Hid (Srt k fj (i + 1)) := flo_stop (unhide HFLJ) hj (Or.inl rfl)
          clear hj0
          go_wp2_with fail
          refine wp_region_hold (fun _ : World => True) (by kernel_rfl) ?_
          have bd0 : Below wr.heap.size wr wr.drew := (Below.refl _ _).drew
          have hC0 : (fun _ : World => True) wr.drew := unhide HCC _ bd0
          refine wpHold_take (i := 0) (v := ?_) rfl (by kernel_rfl) (by kernel_rfl) (by kernel_rfl) (fun _ _ _ h => h) (Or.inl ⟨by rfl, ?_⟩) hC0 ?_
          rotate_left
          · intro w hSw; clear hSw; go_simp; (try with_reducible rfl)
          (try simp only [List.getElem_toArray, List.getElem_cons_succ, List.getElem_cons_zero])
          (try simp only [Act.put, List.setIfInBounds_toArray, List.set_cons_zero, List.set_cons_succ])
          refine wpHold_take (i := 1) (v := ?_) rfl (by kernel_rfl) (by kernel_rfl) (by kernel_rfl) (fun _ _ _ h => h) (Or.inl ⟨by rfl, ?_⟩) hC0 ?_
          rotate_left
          · intro w hSw; clear hSw; go_simp; (try with_reducible rfl)
          (try simp only [List.getElem_toArray, List.getElem_cons_succ, List.getElem_cons_zero])
          (try simp only [Act.put, List.setIfInBounds_toArray, List.set_cons_zero, List.set_cons_succ])
          refine wpHold_take (i := 2) (v := ?_) rfl (by kernel_rfl) (by kernel_rfl) (by kernel_rfl) (fun _ _ _ h => h) (Or.inl ⟨by rfl, ?_⟩) hC0 ?_
          rotate_left
          · intro w hSw; clear hSw; go_simp; (try with_reducible rfl)
          (try simp only [List.getElem_toArray, List.getElem_cons_succ, List.getElem_cons_zero])
          (try simp only [Act.put, List.setIfInBounds_toArray, List.set_cons_zero, List.set_cons_succ])
          refine wpHold_take (i := 3) (v := ?_) rfl (by kernel_rfl) (by kernel_rfl) (by kernel_rfl) (fun _ _ _ h => h) (Or.inl ⟨by rfl, ?_⟩) hC0 ?_
          rotate_left
          · intro w hSw; clear hSw; go_simp; (try with_reducible rfl)
          (try simp only [List.getElem_toArray, List.getElem_cons_succ, List.getElem_cons_zero])
          (try simp only [Act.put, List.setIfInBounds_toArray, List.set_cons_zero, List.set_cons_succ])
          refine wpHold_take (i := 4) (v := undef) rfl (by kernel_rfl) (by kernel_rfl) (by kernel_rfl) (fun _ _ _ h => h) (Or.inr ⟨by rfl, rfl⟩) hC0 ?_
          (try simp only [List.getElem_toArray, List.getElem_cons_succ, List.getElem_cons_zero])
          (try simp only [Act.put, List.setIfInBounds_toArray, List.set_cons_zero, List.set_cons_succ])
          refine wpHold_take (i := 5) (v := undef) rfl (by kernel_rfl) (by kernel_rfl) (by kernel_rfl) (fun _ _ _ h => h) (Or.inr ⟨by rfl, rfl⟩) hC0 ?_
          (try simp only [List.getElem_toArray, List.getElem_cons_succ, List.getElem_cons_zero])
          (try simp only [Act.put, List.setIfInBounds_toArray, List.set_cons_zero, List.set_cons_succ])
          refine wpHold_take (i := 6) (v := undef) rfl (by kernel_rfl) (by kernel_rfl) (by kernel_rfl) (fun _ _ _ h => h) (Or.inr ⟨by rfl, rfl⟩) hC0 ?_
          (try simp only [List.getElem_toArray, List.getElem_cons_succ, List.getElem_cons_zero])
          (try simp only [Act.put, List.setIfInBounds_toArray, List.set_cons_zero, List.set_cons_succ])
          refine wpHold_take (i := 7) (v := undef) rfl (by kernel_rfl) (by kernel_rfl) (by kernel_rfl) (fun _ _ _ h => h) (Or.inr ⟨by rfl, rfl⟩) hC0 ?_
          (try simp only [List.getElem_toArray, List.getElem_cons_succ, List.getElem_cons_zero])
          (try simp only [Act.put, List.setIfInBounds_toArray, List.set_cons_zero, List.set_cons_succ])
          refine wpHold_take (i := 8) (v := undef) rfl (by kernel_rfl) (by kernel_rfl) (by kernel_rfl) (fun _ _ _ h => h) (Or.inr ⟨by rfl, rfl⟩) hC0 ?_
          (try simp only [List.getElem_toArray, List.getElem_cons_succ, List.getElem_cons_zero])
          (try simp only [Act.put, List.setIfInBounds_toArray, List.set_cons_zero, List.set_cons_succ])
          refine wpHold_take (i := 9) (v := undef) rfl (by kernel_rfl) (by kernel_rfl) (by kernel_rfl) (fun _ _ _ h => h) (Or.inr ⟨by rfl, rfl⟩) hC0 ?_
          (try simp only [List.getElem_toArray, List.getElem_cons_succ, List.getElem_cons_zero])
          (try simp only [Act.put, List.setIfInBounds_toArray, List.set_cons_zero, List.set_cons_succ])
          refine wpHold_take (i := 10) (v := undef) rfl (by kernel_rfl) (by kernel_rfl) (by kernel_rfl) (fun _ _ _ h => h) (Or.inr ⟨by rfl, rfl⟩) hC0 ?_
          (try simp only [List.getElem_toArray, List.getElem_cons_succ, List.getElem_cons_zero])
          (try simp only [Act.put, List.setIfInBounds_toArray, List.set_cons_zero, List.set_cons_succ])
          refine wpHold_take (i := 11) (v := undef) rfl (by kernel_rfl) (by kernel_rfl) (by kernel_rfl) (fun _ _ _ h => h) (Or.inr ⟨by rfl, rfl⟩) hC0 ?_
          (try simp only [List.getElem_toArray, List.getElem_cons_succ, List.getElem_cons_zero])
          (try simp only [Act.put, List.setIfInBounds_toArray, List.set_cons_zero, List.set_cons_succ])
          refine wpHold_take (i := 12) (v := undef) rfl (by kernel_rfl) (by kernel_rfl) (by kernel_rfl) (fun _ _ _ h => h) (Or.inr ⟨by rfl, rfl⟩) hC0 ?_
          (try simp only [List.getElem_toArray, List.getElem_cons_succ, List.getElem_cons_zero])
          (try simp only [Act.put, List.setIfInBounds_toArray, List.set_cons_zero, List.set_cons_succ])
          refine wpHold_take (i := 13) (v := undef) rfl (by kernel_rfl) (by kernel_rfl) (by kernel_rfl) (fun _ _ _ h => h) (Or.inr ⟨by rfl, rfl⟩) hC0 ?_
          (try simp only [List.getElem_toArray, List.getElem_cons_succ, List.getElem_cons_zero])
          (try simp only [Act.put, List.setIfInBounds_toArray, List.set_cons_zero, List.set_cons_succ])
          refine wpHold_take (i := 14) (v := undef) rfl (by kernel_rfl) (by kernel_rfl) (by kernel_rfl) (fun _ _ _ h => h) (Or.inr ⟨by rfl, rfl⟩) hC0 ?_
          (try simp only [List.getElem_toArray, List.getElem_cons_succ, List.getElem_cons_zero])
          (try simp only [Act.put, List.setIfInBounds_toArray, List.set_cons_zero, List.set_cons_succ])
          refine wpHold_take (i := 15) (v := undef) rfl (by kernel_rfl) (by kernel_rfl) (by kernel_rfl) (fun _ _ _ h => h) (Or.inr ⟨by rfl, rfl⟩) hC0 ?_
          (try simp only [List.getElem_toArray, List.getElem_cons_succ, List.getElem_cons_zero])
          (try simp only [Act.put, List.setIfInBounds_toArray, List.set_cons_zero, List.set_cons_succ])
          refine wpHold_take (i := 16) (v := ?_) rfl (by kernel_rfl) (by kernel_rfl) (by kernel_rfl) (fun _ _ _ h => h) (Or.inl ⟨by rfl, ?_⟩) hC0 ?_
          rotate_left
          · intro w hSw; clear hSw; go_simp; (try with_reducible rfl)
          (try simp only [List.getElem_toArray, List.getElem_cons_succ, List.getElem_cons_zero])
          (try simp only [Act.put, List.setIfInBounds_toArray, List.set_cons_zero, List.set_cons_succ])
          refine wpHold_done (by kernel_rfl) ?_ _
          have HBN := hide bd0
          clear hC0 bd0
          clear dj HCC
          go_wp2_with fail
          (try simp only [Exit.inBlock, Exit.then])
          go_wp2_with fail
          exact ⟨⟨i + 1, fj, by go_num, by omega, hlt, (unhide HOJ).keep (unhide HBN), unhide HFJ, unhide HS, below_step (unhide HBJ) (unhide HBN), (unhide HCI).keep _ _ (unhide HIJ) (unhide HBN)⟩, by simp [intOf]; omega⟩
    · obtain rfl : i = n := by omega
      have e1 : ¬ (i : Int) < (i : Int) := by omega
      go_wp2
      (try simp only [Exit.inBlock, Exit.then])
      (try go_wp2)
      exact bodyPost_ret (v := .tuple #[]) (by simp [results, Tryz.results56, go_sem]) rfl ⟨rfl, f', unhide HOWN, unhide HF', unhide HSR, unhide HBL', unhide HI'⟩
end Go.Proofs.YtbboacmjbffmhaaGreatDoor
