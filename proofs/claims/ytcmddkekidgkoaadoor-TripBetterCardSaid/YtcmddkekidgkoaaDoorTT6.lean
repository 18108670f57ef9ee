/- Round ways: pieces turned over as long as that helps, by the program. -/
import Derived.Test.YtcmddkekidgkoaaDoorTT5
import Derived.Laws.CopyRow
namespace Go.Proofs.YtcmddkekidgkoaaDoor
open Go.RowKit Go.Sort Go.Shelf

/-- A block with some of its cells set. -/
def setA (cur : Array Value) : Nat → List Value → Array Value
  | _, [] => cur
  | o, v :: vs => setA (cur.setIfInBounds o v) (o + 1) vs
theorem setA_size : ∀ (vs : List Value) (cur : Array Value) (o : Nat), (setA cur o vs).size = cur.size
  | [], _, _ => rfl
  | v :: vs, cur, o => by show (setA (cur.setIfInBounds o v) (o + 1) vs).size = _; rw [setA_size vs]; simp
theorem setA_get : ∀ (vs : List Value) (cur : Array Value) (o j : Nat), o + vs.length ≤ cur.size → (setA cur o vs)[j]? = if o ≤ j ∧ j < o + vs.length then vs[j - o]? else cur[j]?
  | [], cur, o, j, _ => by show cur[j]? = _; rw [if_neg (by simp)]
  | v :: vs, cur, o, j, h => by
    simp only [List.length_cons] at h ⊢
    show (setA (cur.setIfInBounds o v) (o + 1) vs)[j]? = _
    rw [setA_get vs _ (o + 1) j (by simp; omega)]
    by_cases c1 : j = o
    · subst c1
      rw [if_neg (by omega), if_pos (by omega), Array.getElem?_setIfInBounds_self_of_lt (by omega)]
      simp
    · by_cases c2 : o + 1 ≤ j ∧ j < o + 1 + vs.length
      · rw [if_pos c2, if_pos (by omega), show j - o = (j - (o + 1)) + 1 by omega]
        simp
      · rw [if_neg c2, if_neg (by omega), Array.getElem?_setIfInBounds_ne (fun h => c1 h.symm)]
theorem heap_setCells_same : ∀ (vs : List Value) (w : World) (g o : Nat) (cur : Array Value) (T : TypeId) (fr : Nat × Nat), w.heap[g]? = some (.cells cur T fr) → (w.setCells g o vs).heap[g]? = some (.cells (setA cur o vs) T fr)
  | [], _, _, _, _, _, _, h => h
  | v :: vs, w, g, o, cur, T, fr, h => by
    show ((w.setCell ⟨g, o, none⟩ v).setCells g (o + 1) vs).heap[g]? = _
    refine heap_setCells_same vs _ g (o + 1) (cur.setIfInBounds o v) T fr ?_
    rw [setCell_eq]
    simp only [mapBlock, Array.getElem?_modify, h, if_true, Option.map_some, onCells]
theorem size_setCells' : ∀ (vs : List Value) (w : World) (g o : Nat), (w.setCells g o vs).heap.size = w.heap.size
  | [], _, _, _ => rfl
  | v :: vs, w, g, o => by
    show ((w.setCell ⟨g, o, none⟩ v).setCells g (o + 1) vs).heap.size = _
    rw [size_setCells' vs]
    simp [World.setCell]
theorem tape_setCells' : ∀ (vs : List Value) (w : World) (g o : Nat), (w.setCells g o vs).tape = w.tape
  | [], _, _, _ => rfl
  | v :: vs, w, g, o => by
    show ((w.setCell ⟨g, o, none⟩ v).setCells g (o + 1) vs).tape = _
    rw [tape_setCells' vs]
    rfl
theorem heap_setCells_other' : ∀ (vs : List Value) (w : World) (g o : Nat) {j : Nat}, j ≠ g → (w.setCells g o vs).heap[j]? = w.heap[j]?
  | [], _, _, _, _, _ => rfl
  | v :: vs, w, g, o, j, h => by
    show ((w.setCell ⟨g, o, none⟩ v).setCells g (o + 1) vs).heap[j]? = _
    rw [heap_setCells_other' vs _ g (o + 1) h]
    exact Below.heap_setCell _ _ _ _ h
theorem os_setCells' : ∀ (vs : List Value) (w : World) (g o : Nat), (w.setCells g o vs).os = w.os
  | [], _, _, _ => rfl
  | v :: vs, w, g, o => by
    show ((w.setCell ⟨g, o, none⟩ v).setCells g (o + 1) vs).os = _
    rw [os_setCells' vs]
    rfl
theorem output_setCells' : ∀ (vs : List Value) (w : World) (g o : Nat), (w.setCells g o vs).output = w.output
  | [], _, _, _ => rfl
  | v :: vs, w, g, o => by
    show ((w.setCell ⟨g, o, none⟩ v).setCells g (o + 1) vs).output = _
    rw [output_setCells' vs]
    rfl
theorem setRow_other {w : World} {g k : Nat} {cs' : Array Value} (h : k ≠ g) : (w.setRow g cs').heap[k]? = w.heap[k]? := by
  simp [World.setRow, Array.getElem?_modify, Ne.symm h]
theorem setRow_size {w : World} {g : Nat} {cs' : Array Value} : (w.setRow g cs').heap.size = w.heap.size := by
  simp [World.setRow]
theorem setRow_same {w : World} {g : Nat} {cs cs' : Array Value} {T : TypeId} (h : w.heap[g]? = some (.cells cs T)) : (w.setRow g cs').heap[g]? = some (.cells cs' T) := by
  simp [World.setRow, Array.getElem?_modify, h]
def sB (R : Nat → Nat → Int) (V : Nat → Int) (p i k : Nat) : Bool := decide (lngW R (turnV V i k) p < lngW R V p)
def FirstB (R : Nat → Nat → Int) (p : Nat) (V : Nat → Int) (i k : Nat) : Prop := 1 ≤ i ∧ i < k ∧ k < p ∧ sB R V p i k = true ∧ ∀ x y, 1 ≤ x → x < y → y < p → (x < i ∨ x = i ∧ y < k) → sB R V p x y = false
def RestB (R : Nat → Nat → Int) (p : Nat) (V : Nat → Int) : Prop := ∀ x y, 1 ≤ x → x < y → y < p → sB R V p x y = false
def FinB (R : Nat → Nat → Int) (p : Nat) : Nat → (Nat → Int) → (Nat → Int) → Prop
  | 0, V, U => RestB R p V ∧ U = V
  | f + 1, V, U => ∃ i k, FirstB R p V i k ∧ FinB R p f (turnV V i k) U
/-- Where it ends. -/
def EndB (R : Nat → Nat → Int) (p : Nat) (V U : Nat → Int) : Prop := ∃ f, FinB R p f V U
theorem EndB.rest {R : Nat → Nat → Int} {p : Nat} {V : Nat → Int} (h : RestB R p V) : EndB R p V V := ⟨0, h, rfl⟩
theorem EndB.step {R : Nat → Nat → Int} {p i k : Nat} {V U : Nat → Int} (h : FirstB R p V i k) (h2 : EndB R p (turnV V i k) U) : EndB R p V U := by
  obtain ⟨f, hf⟩ := h2
  exact ⟨f + 1, i, k, h, hf⟩
theorem FirstB.uniq {R : Nat → Nat → Int} {p i k i' k' : Nat} {V : Nat → Int} (h : FirstB R p V i k) (h' : FirstB R p V i' k') : i = i' ∧ k = k' := by
  obtain ⟨a1, a2, a3, a4, a5⟩ := h
  obtain ⟨b1, b2, b3, b4, b5⟩ := h'
  by_cases c : i < i' ∨ i = i' ∧ k < k'
  · rw [b5 i k a1 a2 a3 c] at a4; cases a4
  · by_cases c' : i' < i ∨ i' = i ∧ k' < k
    · rw [a5 i' k' b1 b2 b3 c'] at b4; cases b4
    · omega
theorem FinB.uniq {R : Nat → Nat → Int} {p : Nat} : ∀ {f g : Nat} {V U U' : Nat → Int}, FinB R p f V U → FinB R p g V U' → U = U'
  | 0, 0, V, U, U', h, h' => by rw [h.2, h'.2]
  | 0, g + 1, V, U, U', h, h' => by
    obtain ⟨i, k, ⟨b1, b2, b3, b4, _⟩, _⟩ := h'
    rw [h.1 i k b1 b2 b3] at b4; cases b4
  | f + 1, 0, V, U, U', h, h' => by
    obtain ⟨i, k, ⟨b1, b2, b3, b4, _⟩, _⟩ := h
    rw [h'.1 i k b1 b2 b3] at b4; cases b4
  | f + 1, g + 1, V, U, U', h, h' => by
    obtain ⟨i, k, h1, h2⟩ := h
    obtain ⟨i', k', h1', h2'⟩ := h'
    obtain ⟨rfl, rfl⟩ := h1.uniq h1'
    exact FinB.uniq h2 h2'
theorem EndB.uniq {R : Nat → Nat → Int} {p : Nat} {V U U' : Nat → Int} (h : EndB R p V U) (h' : EndB R p V U') : U = U' := by
  obtain ⟨f, hf⟩ := h
  obtain ⟨g, hg⟩ := h'
  exact FinB.uniq hf hg
theorem plW_congr (R : Nat → Nat → Int) {V V' : Nat → Int} {p : Nat} (h : ∀ j, j < p → V j = V' j) : ∀ k, k ≤ p → plW R V p k = plW R V' p k
  | 0, _ => rfl
  | k + 1, hk => by
    show plW R V p k + R (V (pvk p k)).toNat (V k).toNat = plW R V' p k + R (V' (pvk p k)).toNat (V' k).toNat
    rw [plW_congr R h k (by omega), h k hk, h (pvk p k) (by unfold pvk; split <;> omega)]
theorem lngW_congr (R : Nat → Nat → Int) {V V' : Nat → Int} {p : Nat} (h : ∀ j, j < p → V j = V' j) : lngW R V p = lngW R V' p := by
  unfold lngW; rw [plW_congr R h p (Nat.le_refl _)]
def RngV (n p : Nat) (V : Nat → Int) : Prop := ∀ j, j < p → 0 ≤ V j ∧ V j < (n : Int)
theorem RngV.turn {n p i k : Nat} {V : Nat → Int} (h : RngV n p V) (_ : i ≤ k) (hk : k < p) : RngV n p (turnV V i k) := fun j hj => by
  unfold turnV
  by_cases c : i ≤ j ∧ j ≤ k
  · rw [if_pos c]; exact h _ (by omega)
  · rw [if_neg c]; exact h _ hj
theorem lngW_nonneg {n p : Nat} {R : Nat → Nat → Int} {ln : Nat → Nat} {V : Nat → Int} (G : GMap n R ln) (hV : RngV n p V) : 0 ≤ lngW R V p := by
  unfold lngW
  split
  · exact Int.le_refl _
  · exact (plW_bd G hV p (Nat.le_refl _)).1
/-- The number in a cell. -/
def cellN (w : World) (G j : Nat) : Int := match w.cell? ⟨G, j, none⟩ with | some (.int _ x) => x | _ => 0
theorem OwnI.cellN {w : World} {G n : Nat} {f : Nat → Int} (h : OwnI w G n f) {j : Nat} (hj : j < n) : cellN w G j = f j := by
  unfold Proofs.YtcmddkekidgkoaaDoor.cellN; rw [h.cell hj]
/-- A piece of the call's own row turned over. -/
theorem rev_own {w W : World} {B G p i k : Nat} {V : Nat → Int} (hO : OwnI W G p V) (hb : Below B w W) (hB : B ≤ G) (_ : i < k) (hk : k < p) (hp : p ≤ 1000) (L C : Nat) (hL : L = k + 1 - i) :
    Calls Tryd.prog 78 #[.slice (some ⟨G, i, none⟩) L C] W fun e w' => e = .returned (.tuple #[]) ∧ OwnI w' G p (turnV V i k) ∧ Below B w w' := by
  subst hL
  obtain ⟨zs, hzs⟩ : ∃ zs, (List.range (p - i)).map (fun j => V (i + j)) = zs := ⟨_, rfl⟩
  have zl : zs.length = p - i := by rw [← hzs]; simp
  have zg : ∀ j, j < p - i → zs.getD j 0 = V (i + j) := fun j hj => by rw [← hzs]; simp [hj]
  refine (Tryd.slices_Reverse_int_cells G i (k + 1 - i) C zs W (by omega) (by omega) (fun j hj => by rw [hO.cell (j := i + j) (by omega), zg j (by omega)]) (fun j _ => hO.free _)).mono ?_
  rintro e w' ⟨rfl, q, rfl⟩
  refine ⟨rfl, ?_, ?_⟩
  · have h1 := heap_setCells_same ((zs.take (k + 1 - i)).reverse.map (Value.int .i64)) (W.drewN q) G i _ _ _ hO
    unfold OwnI
    rw [h1]
    congr 2
    apply Array.ext_getElem?
    intro j
    have vl : ((zs.take (k + 1 - i)).reverse.map (Value.int .i64)).length = k + 1 - i := by simp; omega
    rw [setA_get _ _ _ _ (by rw [vl, List.size_toArray, lrow_length]; omega), vl]
    by_cases c : i ≤ j ∧ j < i + (k + 1 - i)
    · rw [if_pos c]
      have hz : ((zs.take (k + 1 - i)).reverse.map (Value.int .i64))[j - i]? = some (.int .i64 (V (i + k - j))) := by
        rw [List.getElem?_map, List.getElem?_reverse (by simp; omega), List.getElem?_take_of_lt (by simp; omega)]
        have hx : (zs.take (k + 1 - i)).length = k + 1 - i := by simp; omega
        rw [hx]
        have := zg (k + 1 - i - 1 - (j - i)) (by omega)
        rw [List.getD_eq_getElem?_getD, List.getElem?_eq_getElem (by omega)] at this
        rw [List.getElem?_eq_getElem (by omega)]
        simp only [Option.getD_some] at this
        rw [this, show i + (k + 1 - i - 1 - (j - i)) = i + k - j by omega]
        rfl
      rw [hz, ← turnV_in (V := V) c.1 (show j ≤ k by omega)]
      have := lrow_get (turnV V i k) (n := p) (j := j) (by omega)
      simpa using this.symm
    · rw [if_neg c]
      by_cases hj : j < p
      · have h2 := lrow_get (turnV V i k) (n := p) hj
        have h3 := lrow_get V (n := p) hj
        rw [turnV_out (by omega)] at h2
        simp only [List.getElem?_toArray]
        rw [h2, h3]
      · simp only [List.getElem?_toArray]
        rw [List.getElem?_eq_none (by rw [lrow_length]; omega), List.getElem?_eq_none (by rw [lrow_length]; omega)]
  · refine ⟨?_, ?_, ?_, ?_, fun x hx => ?_⟩
    · rw [os_setCells']; exact hb.os
    · rw [tape_setCells']; exact hb.tape
    · rw [output_setCells']; exact hb.output
    · rw [size_setCells']; exact hb.size
    · rw [heap_setCells_other' _ _ _ _ (by omega)]; exact hb.block x hx
/-- copy of a row into the call's own. -/
theorem copyI_run {w W : World} {B G p c : Nat} {a : Option Addr} {f V : Nat → Int} (hO : OwnI W G p f) (hv : IRow W a p c V) (hb : Below B w W) (hB : B ≤ G) :
    ∃ W', (Builtin.copy_ #[31, 31] 3 #[.slice (some ⟨G, 0, none⟩) p p, .slice a p c]).run Tryd.prog W = .ok (.int .i64 (p : Int)) W' ∧ OwnI W' G p V ∧ Below B w W' := by
  by_cases h0 : p = 0
  · subst h0
    exact ⟨_, run_copy_none _ _ _ _ 3 _ _ _ _ _ _ Tryd.underlying31 Tryd.sizeI (Nat.zero_min _), hO.congr (fun j hj => absurd hj (Nat.not_lt_zero _)), hb⟩
  · obtain ⟨h1, h2, h3⟩ := hv
    obtain ⟨b, o, rfl, hlt, hc⟩ := h3 (by omega)
    have hr := run_copy_row (P := Tryd.prog) W 31 31 3 3 G 0 p p ⟨b, o, none⟩ p c (lrow f p).toArray 3 (lrow V p) Tryd.underlying31 Tryd.sizeI hO
      (by rw [lrow_length]; exact (Nat.min_self _).symm)
      (fun j v hv => by
        have hj : j < p := by
          have := (List.getElem?_eq_some_iff.1 hv).1
          rw [lrow_length] at this; exact this
        rw [lrow_get V hj] at hv
        have hcj := hc j hj
        rw [← hv]
        by_cases hj0 : j = 0
        · subst hj0; simpa [Addr.add] using hcj
        · simpa [Addr.add, hj0] using hcj)
      (by rw [lrow_length, List.size_toArray, lrow_length]; omega)
      (fun v hv => by
        obtain ⟨j, _, rfl⟩ := List.mem_map.1 hv
        rfl)
    have e : ((lrow f p).toArray.toList.take 0 ++ lrow V p ++ (lrow f p).toArray.toList.drop (0 + (lrow V p).length)).toArray = (lrow V p).toArray := by
      rw [List.take_zero, List.nil_append, lrow_length, List.drop_eq_nil_of_le (by show (lrow f p).length ≤ _; rw [lrow_length]; omega), List.append_nil]
    rw [e, lrow_length] at hr
    refine ⟨_, hr, setRow_same hO, hb.os, hb.tape, hb.output, by rw [setRow_size]; exact hb.size, fun x hx => ?_⟩
    rw [setRow_other (by omega)]
    exact hb.block x hx
def bcode (n : Nat) (R : Nat → Nat → Int) (ln : Nat → Nat) (p : Nat) (V : Nat → Int) : Int := if mcode n R ln ≠ 0 then mcode n R ln else if ocode V p n ≠ 0 then ocode V p n else if symB n R = false then 3 else 0
def BetE (w : World) (k : Int) (R : Nat → Nat → Int) (p : Nat) (V : Nat → Int) (e : Ending) (w' : World) : Prop :=
  Below w.heap.size w w' ∧ ((k ≠ 0 ∧ e = .returned (.tuple #[.slice none 0 0, .iface 25 (.int .i64 k)])) ∨ (k = 0 ∧ ∃ G U, w.heap.size ≤ G ∧ e = .returned (.tuple #[.slice (some ⟨G, 0, none⟩) p p, .nilIface]) ∧ OwnI w' G p U ∧ EndB R p V U))
end Go.Proofs.YtcmddkekidgkoaaDoor
