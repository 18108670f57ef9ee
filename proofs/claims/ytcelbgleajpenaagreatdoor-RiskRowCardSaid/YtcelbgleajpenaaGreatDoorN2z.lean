/- A matrix of the call's own: a row of rows, each in a block of its own. -/
import Derived.Test.YtcelbgleajpenaaGreatDoorB5
namespace Go.Proofs.YtcelbgleajpenaaGreatDoor
open Go.RowKit Go.Sort Go.Shelf

/-- The first c of n places hold rows, the others none. -/
def hdl (n c : Nat) (ls : Nat → Sl) : List Value := (List.range n).map fun i => if i < c then (ls i).val else .slice none 0 0
theorem hdl_length (n c : Nat) (ls : Nat → Sl) : (hdl n c ls).length = n := by simp [hdl]
theorem hdl_zero (n : Nat) (ls : Nat → Sl) : List.replicate n (Value.slice none 0 0) = hdl n 0 ls := by
  apply List.ext_getElem?
  intro i
  unfold hdl
  by_cases h : i < n <;> simp [h]
theorem hdl_get {n c i : Nat} {ls : Nat → Sl} (h : i < c) (hn : i < n) : (hdl n c ls)[i]? = some (ls i).val := by simp [hdl, h, hn]
theorem hdl_none {n c i : Nat} {ls : Nat → Sl} (h : c ≤ i) (hn : i < n) : (hdl n c ls)[i]? = some (.slice none 0 0) := by
  have : ¬ i < c := by omega
  simp [hdl, this, hn]
theorem hdl_push (n c : Nat) (ls : Nat → Sl) : (hdl n c ls).set c (ls c).val = hdl n (c + 1) ls := by
  apply List.ext_getElem?
  intro i
  unfold hdl
  rw [List.getElem?_set]
  by_cases h : c = i
  · subst h
    by_cases hk : c < n <;> simp [hk]
  · by_cases hi : i < n
    · have e : (i < c + 1) = (i < c) := by apply propext; omega
      simp [h, hi, e]
    · simp [h, hi]
def upl (ls : Nat → Sl) (k : Nat) (l : Sl) : Nat → Sl := fun i => if i = k then l else ls i
theorem hdl_set (n c k : Nat) (ls : Nat → Sl) (l : Sl) (hk : k < c) : (hdl n c ls).set k l.val = hdl n c (upl ls k l) := by
  apply List.ext_getElem?
  intro i
  unfold hdl upl
  rw [List.getElem?_set]
  by_cases h : k = i
  · subst h
    by_cases hn : k < n <;> simp [hk, hn]
  · have h' : ¬ i = k := fun e => h e.symm
    by_cases hi : i < n <;> simp [h, h', hi]
theorem hdl_congr {n c : Nat} {ls ms : Nat → Sl} (h : ∀ i, i < c → ls i = ms i) : hdl n c ls = hdl n c ms := by
  unfold hdl
  apply List.map_congr_left
  intro i _
  by_cases hi : i < c
  · rw [if_pos hi, if_pos hi, h i hi]
  · rw [if_neg hi, if_neg hi]
theorem hdl_notWord (n c : Nat) (ls : Nat → Sl) : ∀ u ∈ hdl n c ls, notWord u := by
  intro u hu
  obtain ⟨i, _, rfl⟩ := List.mem_map.1 hu
  by_cases h : i < c
  · rw [if_pos h]; trivial
  · rw [if_neg h]; trivial
theorem hdl_noWord {n c : Nat} {ls : Nat → Sl} {T : TypeId} {fr : Nat × Nat} : NoWord (.cells (hdl n c ls).toArray T fr) := by
  intro cs T' fr' e j x
  injection e with e
  subst e
  intro hx
  obtain ⟨hlt, hx⟩ := Array.getElem?_eq_some_iff.1 hx
  exact hdl_notWord n c ls (.int .u64 x) (by rw [← hx]; simp)
theorem hdl_cell {w : World} {G n c : Nat} {ls : Nat → Sl} {T : TypeId} (h : w.heap[G]? = some (.cells (hdl n c ls).toArray T)) {i : Nat} (hi : i < c) (hn : i < n) : w.cell? ⟨G, i, none⟩ = some (.slice (ls i).a (ls i).n (ls i).c) := by
  simp only [World.cell?, h]
  have := hdl_get (ls := ls) hi hn
  simpa [Sl.val] using this
theorem hdl_cell0 {w : World} {G n c : Nat} {ls : Nat → Sl} {T : TypeId} (h : w.heap[G]? = some (.cells (hdl n c ls).toArray T)) {i : Nat} (hi : c ≤ i) (hn : i < n) : w.cell? ⟨G, i, none⟩ = some (.slice none 0 0) := by
  simp only [World.cell?, h]
  have := hdl_none (ls := ls) hi hn
  simpa using this
theorem hdl_free {w : World} {G n c : Nat} {ls : Nat → Sl} {T : TypeId} (h : w.heap[G]? = some (.cells (hdl n c ls).toArray T)) (i : Nat) : w.frozen? ⟨G, i, none⟩ = false := by simp [World.frozen?, h]
theorem hdl_write {w : World} {G : Nat} {xs : List Value} {T : TypeId} (h : w.heap[G]? = some (.cells xs.toArray T)) (i : Nat) (v : Value) : (w.setCell ⟨G, i, none⟩ v).heap[G]? = some (.cells (xs.set i v).toArray T) := by
  rw [setCell_eq]
  simp [mapBlock, Array.getElem?_modify, h, onCells]
theorem RatIs.headed {w : World} {g n c : Nat} {ls : Nat → Sl} {v : Value} {q : Rat} {T : TypeId} (h : RatIs w v q) (hg : w.heap[g]? = some (.cells (hdl n c ls).toArray T)) (i0 : Nat) (x0 : Value) : RatIs (w.setCell ⟨g, i0, none⟩ x0) v q := by
  refine h.other hg hdl_noWord (by simp [World.setCell]) (fun k hk => ?_)
  rw [Below.heap_setCell _ _ _ _ hk]

/-- A row in block b. -/
def inB (m : Nat) (bs : Nat → Nat) (i : Nat) : Sl := (some ⟨bs i, 0, none⟩, m, m)
/-- The first c of n rows, m wide, in blocks of their own. -/
structure MatAt (w wr : World) (G n c m : Nat) (bs : Nat → Nat) (uss : Nat → List Tri) (M : Nat → Nat → Rat) : Prop where
  out : wr.heap[G]? = some (.cells (hdl n c (inB m bs)).toArray 42)
  gl : w.heap.size ≤ G
  bl : Below w.heap.size w wr
  blk : ∀ i, i < c → wr.heap[bs i]? = some (.cells (tcells (uss i)).toArray 37)
  low : ∀ i, i < c → w.heap.size ≤ bs i
  len : ∀ i, i < c → (uss i).length = m
  rat : ∀ i j, i < c → j < m → RatIs wr ((uss i)[j]!).val (M i j)
  apart : ∀ i j, i < c → j < c → i ≠ j → bs i ≠ bs j
theorem MatAt.ne {w wr : World} {G n c m : Nat} {bs : Nat → Nat} {uss : Nat → List Tri} {M : Nat → Nat → Rat} (h : MatAt w wr G n c m bs uss M) {i : Nat} (hi : i < c) : bs i ≠ G := fun e => by
  have a := h.blk i hi
  rw [e, h.out] at a
  injection a with a
  injection a with _ a
  exact absurd a (by decide)
theorem MatAt.lt {w wr : World} {G n c m : Nat} {bs : Nat → Nat} {uss : Nat → List Tri} {M : Nat → Nat → Rat} (h : MatAt w wr G n c m bs uss M) {i : Nat} (hi : i < c) : bs i < wr.heap.size := (Array.getElem?_eq_some_iff.1 (h.blk i hi)).1
theorem MatAt.ltG {w wr : World} {G n c m : Nat} {bs : Nat → Nat} {uss : Nat → List Tri} {M : Nat → Nat → Rat} (h : MatAt w wr G n c m bs uss M) : G < wr.heap.size := (Array.getElem?_eq_some_iff.1 h.out).1
theorem MatAt.keep {w wr w' : World} {G n c m : Nat} {bs : Nat → Nat} {uss : Nat → List Tri} {M : Nat → Nat → Rat} (h : MatAt w wr G n c m bs uss M) (hb : Below wr.heap.size wr w') : MatAt w w' G n c m bs uss M :=
  ⟨by rw [hb.block _ h.ltG]; exact h.out, h.gl, below_step h.bl hb, fun i hi => by rw [hb.block _ (h.lt hi)]; exact h.blk i hi, h.low, h.len, fun i j hi hj => (h.rat i j hi hj).below hb, h.apart⟩
theorem MatAt.congr {w wr : World} {G n c m : Nat} {bs : Nat → Nat} {uss : Nat → List Tri} {M N : Nat → Nat → Rat} (h : MatAt w wr G n c m bs uss M) (he : ∀ i j, i < c → j < m → M i j = N i j) : MatAt w wr G n c m bs uss N :=
  ⟨h.out, h.gl, h.bl, h.blk, h.low, h.len, fun i j hi hj => by rw [← he i j hi hj]; exact h.rat i j hi hj, h.apart⟩
theorem MatAt.rebase {w w1 wr : World} {G n c m : Nat} {bs : Nat → Nat} {uss : Nat → List Tri} {M : Nat → Nat → Rat} (h : MatAt w1 wr G n c m bs uss M) (hb : Below w.heap.size w w1) : MatAt w wr G n c m bs uss M :=
  ⟨h.out, Nat.le_trans hb.size h.gl, below_step hb h.bl, h.blk, fun i hi => Nat.le_trans hb.size (h.low i hi), h.len, h.rat, h.apart⟩
theorem MatAt.head {w wr : World} {G n c m : Nat} {bs : Nat → Nat} {uss : Nat → List Tri} {M : Nat → Nat → Rat} (h : MatAt w wr G n c m bs uss M) {i : Nat} (hi : i < c) (hn : i < n) : wr.cell? ⟨G, i, none⟩ = some (.slice (some ⟨bs i, 0, none⟩) m m) := hdl_cell h.out hi hn
theorem MatAt.cells {w wr : World} {G n c m : Nat} {bs : Nat → Nat} {uss : Nat → List Tri} {M : Nat → Nat → Rat} (h : MatAt w wr G n c m bs uss M) {i j : Nat} (hi : i < c) (hj : j < m) :
    (wr.cell? ⟨bs i, j * 3, none⟩ = some (.bool ((uss i)[j]!).s) ∧ wr.cell? ⟨bs i, j * 3 + 1, none⟩ = some (.slice ((uss i)[j]!).a1 ((uss i)[j]!).n1 ((uss i)[j]!).c1) ∧ wr.cell? ⟨bs i, j * 3 + 2, none⟩ = some (.slice ((uss i)[j]!).a2 ((uss i)[j]!).n2 ((uss i)[j]!).c2)) ∧
    wr.frozen? ⟨bs i, j * 3, none⟩ = false ∧ wr.frozen? ⟨bs i, j * 3 + 1, none⟩ = false ∧ wr.frozen? ⟨bs i, j * 3 + 2, none⟩ = false := by
  have hr := h.blk i hi
  have hl := h.len i hi
  have ck : ∀ k, k < 3 → wr.cell? ⟨bs i, j * 3 + k, none⟩ = ((uss i)[j]!).cells[k]? := fun k hk => by
    simp only [World.cell?, hr]
    have e := tcells_get (uss i) j k (by omega) hk
    simpa using e
  refine ⟨⟨ck 0 (by decide), ck 1 (by decide), ck 2 (by decide)⟩, ?_, ?_, ?_⟩ <;> simp [World.frozen?, hr]
/-- One place written. -/
def upu (uss : Nat → List Tri) (i j : Nat) (t : Tri) : Nat → List Tri := fun k => if k = i then (uss i).set j t else uss k
def upm (M : Nat → Nat → Rat) (i j : Nat) (q : Rat) : Nat → Nat → Rat := fun a b => if a = i ∧ b = j then q else M a b
theorem MatAt.set {w wr : World} {G n c m : Nat} {bs : Nat → Nat} {uss : Nat → List Tri} {M : Nat → Nat → Rat} (h : MatAt w wr G n c m bs uss M) {i j : Nat} (hi : i < c) (hj : j < m) (t : Tri) (q : Rat) (hr : RatIs wr t.val q) :
    MatAt w (((wr.setCell ⟨bs i, j * 3, none⟩ (.bool t.s)).setCell ⟨bs i, j * 3 + 1, none⟩ (.slice t.a1 t.n1 t.c1)).setCell ⟨bs i, j * 3 + 2, none⟩ (.slice t.a2 t.n2 t.c2)) G n c m bs (upu uss i j t) (upm M i j q) := by
  have hl := h.len i hi
  have hlo := h.low i hi
  have hne := h.ne hi
  refine ⟨?_, h.gl, ((h.bl.setCell hlo _).setCell hlo _).setCell hlo _, fun k hk => ?_, h.low, fun k hk => ?_, fun a b ha hb => ?_, h.apart⟩
  · rw [Below.heap_setCell _ _ _ _ (Ne.symm hne), Below.heap_setCell _ _ _ _ (Ne.symm hne), Below.heap_setCell _ _ _ _ (Ne.symm hne)]; exact h.out
  · unfold upu
    by_cases e : k = i
    · subst e
      rw [if_pos rfl]
      exact row_set (h.blk k hk) j (by omega) t
    · have hn := h.apart k i hk hi e
      rw [if_neg e, Below.heap_setCell _ _ _ _ hn, Below.heap_setCell _ _ _ _ hn, Below.heap_setCell _ _ _ _ hn]
      exact h.blk k hk
  · unfold upu
    by_cases e : k = i
    · subst e; rw [if_pos rfl, List.length_set]; exact hl
    · rw [if_neg e]; exact h.len k hk
  · unfold upu upm
    by_cases e : a = i
    · subst e
      rw [if_pos rfl]
      by_cases e2 : b = j
      · subst e2
        have e3 : ((uss a).set b t)[b]! = t := by simp [show b < (uss a).length by omega]
        rw [if_pos ⟨rfl, rfl⟩, e3]
        exact hr.rowed (h.blk a hi) _ _ _ _ _ _
      · have e3 : ((uss a).set j t)[b]! = (uss a)[b]! := by simp [show ¬ j = b from fun x => e2 x.symm]
        rw [if_neg (fun x => e2 x.2), e3]
        exact (h.rat a b hi hb).rowed (h.blk a hi) _ _ _ _ _ _
    · rw [if_neg e, if_neg (fun x => e x.1)]
      exact (h.rat a b ha hb).rowed (h.blk i hi) _ _ _ _ _ _
/-- Two rows change places. -/
theorem MatAt.swap {w wr : World} {G n c m : Nat} {bs : Nat → Nat} {uss : Nat → List Tri} {M : Nat → Nat → Rat} (h : MatAt w wr G n c m bs uss M) {k p : Nat} (hk : k < c) (hp : p < c) (hkp : k ≤ p) :
    MatAt w ((wr.setCell ⟨G, k, none⟩ (.slice (some ⟨bs p, 0, none⟩) m m)).setCell ⟨G, p, none⟩ (.slice (some ⟨bs k, 0, none⟩) m m)) G n c m (fun i => if i = k then bs p else if i = p then bs k else bs i) (fun i => if i = k then uss p else if i = p then uss k else uss i) (Lin.swp M k p) := by
  have o1 := hdl_write h.out k (.slice (some ⟨bs p, 0, none⟩) m m)
  rw [show Value.slice (some ⟨bs p, 0, none⟩) m m = Sl.val (inB m bs p) from rfl, hdl_set n c k (inB m bs) (inB m bs p) hk] at o1
  have o2 := hdl_write o1 p (.slice (some ⟨bs k, 0, none⟩) m m)
  rw [show Value.slice (some ⟨bs k, 0, none⟩) m m = Sl.val (inB m bs k) from rfl, hdl_set n c p _ (inB m bs k) hp] at o2
  have e : ∀ i, upl (upl (inB m bs) k (inB m bs p)) p (inB m bs k) i = inB m (fun i => if i = k then bs p else if i = p then bs k else bs i) i := fun i => by
    unfold upl inB
    by_cases a : i = p
    · subst a
      rw [if_pos rfl]
      by_cases b : i = k
      · subst b; simp
      · simp [b]
    · rw [if_neg a]
      by_cases b : i = k <;> simp [a, b]
  rw [hdl_congr (fun i _ => e i)] at o2
  have pick : ∀ {α : Type} (f : Nat → α) (i : Nat), (if i = k then f p else if i = p then f k else f i) = f (if i = k then p else if i = p then k else i) := fun f i => by
    by_cases b : i = k
    · rw [if_pos b, if_pos b]
    · rw [if_neg b, if_neg b]
      by_cases a : i = p
      · rw [if_pos a, if_pos a]
      · rw [if_neg a, if_neg a]
  have inr : ∀ i, i < c → (if i = k then p else if i = p then k else i) < c := fun i hi => by
    by_cases b : i = k
    · rw [if_pos b]; exact hp
    · rw [if_neg b]
      by_cases a : i = p
      · rw [if_pos a]; exact hk
      · rw [if_neg a]; exact hi
  have inj : ∀ i j, i ≠ j → (if i = k then p else if i = p then k else i) ≠ (if j = k then p else if j = p then k else j) := fun i j hij => by
    intro h; split at h <;> split at h <;> (try split at h) <;> (try split at h) <;> omega
  have far : ∀ g, g ≠ G → ((wr.setCell ⟨G, k, none⟩ (.slice (some ⟨bs p, 0, none⟩) m m)).setCell ⟨G, p, none⟩ (.slice (some ⟨bs k, 0, none⟩) m m)).heap[g]? = wr.heap[g]? := fun g hg => by
    rw [Below.heap_setCell _ _ _ _ hg, Below.heap_setCell _ _ _ _ hg]
  refine ⟨o2, h.gl, (h.bl.setCell h.gl _).setCell h.gl _, fun i hi => ?_, fun i hi => ?_, fun i hi => ?_, fun i j hi hj => ?_, fun i j hi hj hij => ?_⟩
  · simp only [pick bs, pick uss]
    rw [far _ (h.ne (inr i hi))]
    exact h.blk _ (inr i hi)
  · simp only [pick bs]; exact h.low _ (inr i hi)
  · simp only [pick uss]; exact h.len _ (inr i hi)
  · have em : Lin.swp M k p i j = M (if i = k then p else if i = p then k else i) j := by
      unfold Lin.swp
      rw [pick M]
    rw [em]
    simp only [pick uss]
    refine RatIs.headed ((h.rat _ j (inr i hi) hj).headed h.out k _) o1 p _
  · simp only [pick bs]
    exact h.apart _ _ (inr i hi) (inr j hj) (inj i j hij)
/-- A new row, of noughts, behind the others. -/
theorem MatAt.push {w wr : World} {G n c m : Nat} {bs : Nat → Nat} {uss : Nat → List Tri} {M : Nat → Nat → Rat} (h : MatAt w wr G n c m bs uss M) (_hc : c < n) :
    MatAt w ((wr.alloc (.cells (tcells (List.replicate m zTri)).toArray 37)).setCell ⟨G, c, none⟩ (.slice (some ⟨wr.heap.size, 0, none⟩) m m)) G n (c + 1) m (fun i => if i = c then wr.heap.size else bs i) (fun i => if i = c then List.replicate m zTri else uss i) (fun i j => if i = c then 0 else M i j) := by
  have h1 := h.keep (alloc_below wr (.cells (tcells (List.replicate m zTri)).toArray 37))
  have hnew := heap_alloc_new wr (.cells (tcells (List.replicate m zTri)).toArray 37)
  have hG := h.ltG
  have hGs : wr.heap.size ≠ G := by omega
  have o1 := hdl_write h1.out c (.slice (some ⟨wr.heap.size, 0, none⟩) m m)
  have o2 : (hdl n c (inB m bs)).set c (.slice (some ⟨wr.heap.size, 0, none⟩) m m) = hdl n (c + 1) (inB m (fun i => if i = c then wr.heap.size else bs i)) := by
    have ev : Value.slice (some ⟨wr.heap.size, 0, none⟩) m m = Sl.val (inB m (fun i => if i = c then wr.heap.size else bs i) c) := by simp [inB, Sl.val]
    have ec : ∀ i, i < c → inB m bs i = inB m (fun i => if i = c then wr.heap.size else bs i) i := fun i hi => by
      have : ¬ i = c := by omega
      simp [inB, this]
    rw [ev, ← hdl_push, hdl_congr ec]
  rw [o2] at o1
  refine ⟨o1, h.gl, h1.bl.setCell h.gl _, fun i hi => ?_, fun i hi => ?_, fun i hi => ?_, fun i j hi hj => ?_, fun i j hi hj hij => ?_⟩
  · by_cases e : i = c
    · simp only [e, if_true]
      rw [Below.heap_setCell _ _ _ _ hGs]; exact hnew
    · simp only [e, if_false]
      rw [Below.heap_setCell _ _ _ _ (h.ne (by omega))]; exact h1.blk i (by omega)
  · by_cases e : i = c
    · simp only [e, if_true]; exact h.bl.size
    · simp only [e, if_false]; exact h.low i (by omega)
  · by_cases e : i = c
    · simp only [e, if_true]; exact List.length_replicate
    · simp only [e, if_false]; exact h.len i (by omega)
  · by_cases e : i = c
    · simp only [e, if_true]
      have e1 : (List.replicate m zTri)[j]! = zTri := by simp [hj]
      rw [e1]
      exact rat_zero _
    · simp only [e, if_false]
      exact (h1.rat i j (by omega) hj).headed h1.out c _
  · by_cases e : i = c
    · have e2 : ¬ j = c := fun x => hij (e.trans x.symm)
      simp only [e, e2, if_true, if_false]
      have := h.lt (i := j) (by omega)
      omega
    · by_cases e2 : j = c
      · simp only [e, e2, if_true, if_false]
        have := h.lt (i := i) (by omega)
        omega
      · simp only [e, e2, if_false]
        exact h.apart i j (by omega) (by omega) hij
theorem MatAt.start (w w1 : World) (n m : Nat) (bs : Nat → Nat) (uss : Nat → List Tri) (M : Nat → Nat → Rat) (hb : Below w.heap.size w w1) : MatAt w (w1.alloc (.cells (hdl n 0 (inB m bs)).toArray 42)) w1.heap.size n 0 m bs uss M :=
  ⟨heap_alloc_new w1 _, hb.size, below_step hb (alloc_below w1 _), fun _ hi => absurd hi (Nat.not_lt_zero _), fun _ hi => absurd hi (Nat.not_lt_zero _), fun _ hi => absurd hi (Nat.not_lt_zero _), fun _ _ hi => absurd hi (Nat.not_lt_zero _), fun _ _ hi => absurd hi (Nat.not_lt_zero _)⟩
/-- A whole matrix is a row of rows. -/
def mrows (n m : Nat) (M : Nat → Nat → Rat) : List (List Rat) := (List.range n).map fun i => row (M i) m
theorem mrows_length (n m : Nat) (M : Nat → Nat → Rat) : (mrows n m M).length = n := by simp [mrows]
theorem mrows_get {n m i : Nat} {M : Nat → Nat → Rat} (h : i < n) : (mrows n m M)[i]! = row (M i) m := by simp [mrows, h]
theorem MatAt.law {w wr : World} {G n c m : Nat} {bs : Nat → Nat} {uss : Nat → List Tri} {M : Nat → Nat → Rat} (h : MatAt w wr G n c m bs uss M) (hm : m ≤ 9223372036854775807) {i : Nat} (hi : i < c) : LawIs wr (.slice (some ⟨bs i, 0, none⟩) m m) (row (M i) m) := by
  refine ⟨some ⟨bs i, 0, none⟩, m, by rw [row_length], by rw [row_length]; omega, hm, fun hp => ⟨bs i, 0, rfl, h.lt hi, fun j hj => ?_⟩⟩
  rw [row_length] at hj
  obtain ⟨⟨c0, c1, c2⟩, _⟩ := h.cells hi hj
  refine ⟨_, _, _, _, _, _, _, by rw [Nat.zero_add]; exact c0, by rw [Nat.zero_add]; exact c1, by rw [Nat.zero_add]; exact c2, ?_⟩
  rw [row_get hj]; exact h.rat i j hi hj
theorem MatAt.rows {w wr : World} {G n m : Nat} {bs : Nat → Nat} {uss : Nat → List Tri} {M : Nat → Nat → Rat} (h : MatAt w wr G n n m bs uss M) (hn : n ≤ 9223372036854775807) (hm : m ≤ 9223372036854775807) : RowsAre wr (.slice (some ⟨G, 0, none⟩) n n) (mrows n m M) := by
  refine ⟨some ⟨G, 0, none⟩, n, by rw [mrows_length], by rw [mrows_length]; omega, hn, fun hp => ⟨G, 0, rfl, h.ltG, fun j hj => ⟨inB m bs j, ?_, ?_⟩⟩⟩
  · rw [mrows_length] at hj
    rw [Nat.zero_add]; exact h.head hj hj
  · rw [mrows_length] at hj
    rw [mrows_get hj]; exact h.law hm hj
end Go.Proofs.YtcelbgleajpenaaGreatDoor
