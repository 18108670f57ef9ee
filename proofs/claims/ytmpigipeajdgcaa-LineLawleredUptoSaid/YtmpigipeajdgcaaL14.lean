/- Rows that grow and shrink; the longest task of a row; Moore's and Hodgson's rule. -/
import Derived.Test.YtmpigipeajdgcaaL9
import Derived.Test.YtmpigipeajdgcaaShelf
import Derived.Deep.RegionLaw
namespace Go.Proofs.Ytmpigipeajdgcaa
open Go.RowKit Go.Sort Stb

/-- A row of ints of the call's own. -/
def OwnL (w : World) (B : Nat) (v : Value) (xs : List Int) : Prop := w.ownsRow B 3 1 v xs.length (xs.map (.int .i64 ·))
theorem OwnL.keep {w w' : World} {B : Nat} {v : Value} {xs : List Int} (h : OwnL w B v xs) (hb : Below w.heap.size w w') : OwnL w' B v xs := by
  refine ⟨h.1, ?_⟩
  rcases h.2 with h | ⟨g, cap, cur, hv, hg, hh, h1⟩
  · exact Or.inl h
  · exact Or.inr ⟨g, cap, cur, hv, hg, by rw [hb.block g (Array.getElem?_eq_some_iff.1 hh).1]; exact hh, h1⟩
theorem OwnL.start (w : World) (B : Nat) : OwnL w B (.slice none 0 0) [] := World.ownsRow_nil _ _ _ _
theorem OwnL.row {w : World} {B : Nat} {v : Value} {xs : List Int} (h : OwnL w B v xs) : ∀ k, v.ownBlock = some k → B ≤ k := by
  intro k hk
  obtain ⟨h1, ⟨rfl, h2⟩ | ⟨g, cap, cur, rfl, hb, _⟩⟩ := h
  · cases hk
  · obtain rfl : g = k := Option.some.inj hk
    exact hb
theorem OwnL.irow {w : World} {B : Nat} {v : Value} {xs : List Int} (h : OwnL w B v xs) : ∃ a c, v = .slice a xs.length c ∧ IRow w a xs.length c (fun j => xs[j]!) := by
  rcases h.2 with ⟨rfl, h0⟩ | ⟨g, cap, cur, rfl, hb, hg, h1, h2, h3, h4⟩
  · exact ⟨none, 0, by rw [h0], ⟨by omega, by decide, fun h => by omega⟩⟩
  · refine ⟨_, cap, rfl, ⟨h1, by unfold maxLen at h2; exact h2, fun _ => ⟨g, 0, rfl, (Array.getElem?_eq_some_iff.1 hg).1, fun j hj => ?_⟩⟩⟩
    have e1 : (xs.map (Value.int .i64 ·))[j]? = cur[j]? := by
      rw [← h4, List.getElem?_take_of_lt (by omega)]
      simp
    simp only [World.cell?, hg, Nat.zero_add]
    rw [← e1]
    simp [hj]


theorem news_int (w : World) (x : Int) (T : TypeId) : ∀ j u, [Value.int .i64 x][j]? = some u → (w.alloc (.cells #[.int .i64 x] T)).cell? ((⟨w.heap.size, 0, none⟩ : Addr).add j) = some u :=
  World.news_of_block (cs := #[.int .i64 x]) (t := T) (fr := (0, 0)) (heap_alloc_new w _)
theorem one_int (x : Int) : ∀ u ∈ [Value.int .i64 x], u.oneCell' = true := by
  intro u hu
  simp only [List.mem_cons, List.not_mem_nil, or_false] at hu
  rw [hu]; rfl
/-- A row with one more. -/
theorem OwnL.push {w' : World} {B g cap : Nat} {xs : List Int} {x : Int} (own : w'.ownsRow B 3 1 (.slice (some ⟨g, 0, none⟩) (xs.length + 1) cap) (xs.length + 1) (xs.map (Value.int .i64 ·) ++ [.int .i64 x])) : OwnL w' B (.slice (some ⟨g, 0, none⟩) (xs.length + 1) cap) (xs ++ [x]) := by
  unfold OwnL
  rw [List.map_append, List.length_append]
  exact own
theorem OwnL.grow {w wr w' : World} {B : Nat} {v : Value} {xs : List Int} (h : OwnL wr B v xs) (hb : Below w.heap.size w wr) (hB : w.heap.size ≤ B) {W : World} (hW : Below wr.heap.size wr W) (hg : W.grownBy w' v.ownBlock) : Below w.heap.size w w' :=
  Below.grown (below_step hb hW) hg (Nat.le_trans hb.size hW.size) (fun k hk => Nat.le_trans hB (h.row k hk))

theorem OwnL.cell {w : World} {B : Nat} {g n c : Nat} {xs : List Int} (h : OwnL w B (.slice (some ⟨g, 0, none⟩) n c) xs) {j : Nat} (hj : j < xs.length) : w.cell? ⟨g, j, none⟩ = some (.int .i64 xs[j]!) ∧ w.frozen? ⟨g, j, none⟩ = false := by
  rcases h.2 with ⟨h0, _⟩ | ⟨g', cap, cur, hv, hb, hg, h1, h2, h3, h4⟩
  · cases h0
  · injection hv with e1 e2 e3
    injection e1 with e1
    injection e1 with e1
    subst e1
    have e1 : (xs.map (Value.int .i64 ·))[j]? = cur[j]? := by
      rw [← h4, List.getElem?_take_of_lt (by omega)]
      simp
    refine ⟨?_, by simp [World.frozen?, hg]⟩
    simp only [World.cell?, hg]
    rw [← e1]
    simp [hj]
theorem OwnL.len {w : World} {B : Nat} {a : Option Addr} {n c : Nat} {xs : List Int} (h : OwnL w B (.slice a n c) xs) : n = xs.length := by
  rcases h.2 with ⟨h0, h1⟩ | ⟨g', cap, cur, hv, _⟩
  · injection h0 with e1 e2 e3; omega
  · injection hv with e1 e2 e3

/-- A block with some of its cells set. -/
def setA (cur : Array Value) : Nat → List Value → Array Value
  | _, [] => cur
  | o, v :: vs => setA (cur.setIfInBounds o v) (o + 1) vs
theorem setA_size : ∀ (vs : List Value) (cur : Array Value) (o : Nat), (setA cur o vs).size = cur.size
  | [], _, _ => rfl
  | v :: vs, cur, o => by show (setA (cur.setIfInBounds o v) (o + 1) vs).size = _; rw [setA_size vs]; simp
theorem setA_get : ∀ (vs : List Value) (cur : Array Value) (o j : Nat), o + vs.length ≤ cur.size → (setA cur o vs)[j]? = if o ≤ j ∧ j < o + vs.length then vs[j - o]? else cur[j]?
  | [], cur, o, j, _ => by show cur[j]? = _; rw [if_neg (by simp)]
  | v :: vs, cur, o, j, h => by
    simp only [List.length_cons] at h ⊢
    show (setA (cur.setIfInBounds o v) (o + 1) vs)[j]? = _
    rw [setA_get vs _ (o + 1) j (by simp; omega)]
    by_cases c1 : j = o
    · subst c1
      rw [if_neg (by omega), if_pos (by omega), Array.getElem?_setIfInBounds_self_of_lt (by omega)]
      simp
    · by_cases c2 : o + 1 ≤ j ∧ j < o + 1 + vs.length
      · rw [if_pos c2, if_pos (by omega), show j - o = (j - (o + 1)) + 1 by omega]
        simp
      · rw [if_neg c2, if_neg (by omega), Array.getElem?_setIfInBounds_ne (fun h => c1 h.symm)]
theorem heap_setCells_same : ∀ (vs : List Value) (w : World) (g o : Nat) (cur : Array Value) (T : TypeId) (fr : Nat × Nat), w.heap[g]? = some (.cells cur T fr) → (w.setCells g o vs).heap[g]? = some (.cells (setA cur o vs) T fr)
  | [], _, _, _, _, _, _, h => h
  | v :: vs, w, g, o, cur, T, fr, h => by
    show ((w.setCell ⟨g, o, none⟩ v).setCells g (o + 1) vs).heap[g]? = _
    refine heap_setCells_same vs _ g (o + 1) (cur.setIfInBounds o v) T fr ?_
    rw [setCell_eq]
    simp only [mapBlock, Array.getElem?_modify, h, if_true, Option.map_some, onCells]

theorem size_setCells' : ∀ (vs : List Value) (w : World) (g o : Nat), (w.setCells g o vs).heap.size = w.heap.size
  | [], _, _, _ => rfl
  | v :: vs, w, g, o => by
    show ((w.setCell ⟨g, o, none⟩ v).setCells g (o + 1) vs).heap.size = _
    rw [size_setCells' vs]
    simp [World.setCell]
theorem tape_setCells' : ∀ (vs : List Value) (w : World) (g o : Nat), (w.setCells g o vs).tape = w.tape
  | [], _, _, _ => rfl
  | v :: vs, w, g, o => by
    show ((w.setCell ⟨g, o, none⟩ v).setCells g (o + 1) vs).tape = _
    rw [tape_setCells' vs]
    rfl
theorem heap_setCells_other' : ∀ (vs : List Value) (w : World) (g o : Nat) {j : Nat}, j ≠ g → (w.setCells g o vs).heap[j]? = w.heap[j]?
  | [], _, _, _, _, _ => rfl
  | v :: vs, w, g, o, j, h => by
    show ((w.setCell ⟨g, o, none⟩ v).setCells g (o + 1) vs).heap[j]? = _
    rw [heap_setCells_other' vs _ g (o + 1) h]
    exact Below.heap_setCell _ _ _ _ h
theorem os_setCells' : ∀ (vs : List Value) (w : World) (g o : Nat), (w.setCells g o vs).os = w.os
  | [], _, _, _ => rfl
  | v :: vs, w, g, o => by
    show ((w.setCell ⟨g, o, none⟩ v).setCells g (o + 1) vs).os = _
    rw [os_setCells' vs]
    rfl
theorem output_setCells' : ∀ (vs : List Value) (w : World) (g o : Nat), (w.setCells g o vs).output = w.output
  | [], _, _, _ => rfl
  | v :: vs, w, g, o => by
    show ((w.setCell ⟨g, o, none⟩ v).setCells g (o + 1) vs).output = _
    rw [output_setCells' vs]
    rfl

/-- slices.Delete of one number of a row of the call's own. -/
theorem del_any (w : World) (B g n c : Nat) (xs : List Int) (k : Nat) (h : OwnL w B (.slice (some ⟨g, 0, none⟩) n c) xs) (hk : k < xs.length) (hn : xs.length ≤ 100000) :
    Calls Try.prog 24 #[.slice (some ⟨g, 0, none⟩) n c, .int .i64 (k : Int), .int .i64 ((k + 1 : Nat) : Int)] w fun e w' => e = .returned (.slice (some ⟨g, 0, none⟩) (n - 1) c) ∧ OwnL w' B (.slice (some ⟨g, 0, none⟩) (n - 1) c) (xs.eraseIdx k) ∧ w.grownBy w' (some g) := by
  have hl := h.len
  subst hl
  obtain ⟨hlen, ⟨h0, _⟩ | ⟨g', cap, cur, hv, hb, hg, h1, h2, h3, h4⟩⟩ := id h
  · cases h0
  injection hv with e1 e2 e3
  injection e1 with e1
  injection e1 with e1
  subst e1 e3
  have hm : c ≤ 9223372036854775807 := by unfold maxLen at h2; exact h2
  have H := Try.slices_Delete_int_cells g 0 xs.length c k (k + 1) xs w (Nat.le_refl _) h1 hm (by omega) (by omega) (fun j hj => by rw [Nat.zero_add, (h.cell hj).1]; simp [hj]) (fun j hj => by rw [Nat.zero_add]; exact (h.cell hj).2)
  refine H.mono ?_
  rintro e w' ⟨rfl, q, rfl⟩
  have ee : ((xs.take xs.length).take k ++ (xs.take xs.length).drop (k + 1) ++ List.replicate (k + 1 - k) 0) = xs.eraseIdx k ++ [0] := by
    rw [List.take_length, List.eraseIdx_eq_take_drop_succ, show k + 1 - k = 1 by omega]; rfl
  rw [ee]
  have hel : (xs.eraseIdx k).length = xs.length - 1 := by rw [List.length_eraseIdx, if_pos hk]
  have hH : ((w.drewN q).setCells g 0 ((xs.eraseIdx k ++ [0]).map (Value.int .i64 ·))).heap[g]? = some (.cells (setA cur 0 ((xs.eraseIdx k ++ [0]).map (Value.int .i64 ·))) 3 (0, 0)) := heap_setCells_same _ _ g 0 cur _ _ hg
  refine ⟨by rw [show k + 1 - k = 1 by omega], ⟨by simp [hel], Or.inr ⟨g, c, _, by rw [hel], hb, hH, by omega, h2, by rw [setA_size]; exact h3, ?_⟩⟩, ⟨os_setCells' _ _ _ _, tape_setCells' _ _ _ _, output_setCells' _ _ _ _, ?_, fun j hj hne => ?_⟩⟩
  · apply List.ext_getElem?
    intro j
    by_cases hj : j < (xs.eraseIdx k).length
    · rw [List.getElem?_take_of_lt (by rw [hel] at hj; omega), Array.getElem?_toList, setA_get _ _ _ _ (by simp [hel]; omega), if_pos (by simp; omega), Nat.sub_zero, List.map_append, List.getElem?_append_left (by simpa using hj)]
    · rw [List.getElem?_eq_none (by simp [hel]; omega), List.getElem?_eq_none (by simp; omega)]
  · rw [show ((w.drewN q).setCells g 0 _).heap.size = (w.drewN q).heap.size from size_setCells' _ _ _ _]; exact Nat.le_refl _
  · exact heap_setCells_other' _ _ g 0 (fun e => hne (by rw [e]))

def OwnN (w : World) (B : Nat) (v : Value) (xs : List Nat) : Prop := OwnL w B v (xs.map (fun x => ((x : Nat) : Int)))
/-- Two rows of the call's own, apart. -/
structure Two (w0 w : World) (vr vo : Value) (on out : List Nat) : Prop where
  r : OwnN w w0.heap.size vr on
  o : OwnN w w0.heap.size vo out
  ne : ∀ k, vr.ownBlock = some k → vo.ownBlock ≠ some k
  bl : Below w0.heap.size w0 w
theorem Two.start (w0 : World) : Two w0 w0 (.slice none 0 0) (.slice none 0 0) [] [] := ⟨OwnL.start _ _, OwnL.start _ _, (fun k hk => by cases hk), Below.refl _ _⟩
theorem Two.keep {w0 w w' : World} {vr vo : Value} {on out : List Nat} (h : Two w0 w vr vo on out) (hb : Below w.heap.size w w') : Two w0 w' vr vo on out := ⟨OwnL.keep h.r hb, OwnL.keep h.o hb, h.ne, below_step h.bl hb⟩
theorem Two.sym {w0 w : World} {vr vo : Value} {on out : List Nat} (h : Two w0 w vr vo on out) : Two w0 w vo vr out on := ⟨h.o, h.r, fun k h1 h2 => h.ne k h2 h1, h.bl⟩
theorem Two.push {w0 wr w5 : World} {vr vo : Value} {on out : List Nat} {x g5 cap5 : Nat} (h : Two w0 wr vr vo on out)
    (own5 : w5.ownsRow w0.heap.size 3 1 (.slice (some ⟨g5, 0, none⟩) ((on.map (fun x => ((x : Nat) : Int))).length + 1) cap5) ((on.map (fun x => ((x : Nat) : Int))).length + 1) ((on.map (fun x => ((x : Nat) : Int))).map (Value.int .i64 ·) ++ [.int .i64 ((x : Nat) : Int)]))
    (grow5 : (wr.alloc (.cells #[.int .i64 ((x : Nat) : Int)] 3)).grownBy w5 vr.ownBlock) (hat5 : vr.ownBlock = some g5 ∨ g5 = wr.heap.size + 1) : Two w0 w5 (.slice (some ⟨g5, 0, none⟩) (on.length + 1) cap5) vo (on ++ [x]) out := by
  have hb := alloc_below wr (.cells #[.int .i64 ((x : Nat) : Int)] 3)
  have ho := (OwnL.keep h.o hb)
  have hb2 := below_step h.bl hb
  refine ⟨?_, World.ownsRow.kept ho grow5 ?_, fun k hk hk2 => ?_, Below.grown hb2 grow5 hb2.size (fun k hk => OwnL.row h.r k hk)⟩
  · unfold OwnN
    rw [List.map_append]
    have := OwnL.push own5
    rw [List.length_map] at this
    exact this
  · cases c : vo.ownBlock with
    | none => exact Or.inl rfl
    | some j => exact Or.inr (fun e => h.ne j e.symm c)
  · have hk' : g5 = k := Option.some.inj hk
    subst hk'
    rcases hat5 with e | e
    · exact h.ne g5 e hk2
    · have := (World.ownsRow.lt h.o g5 hk2).2
      omega
theorem Two.del {w0 w w' : World} {g n c : Nat} {vo v' : Value} {on on' out : List Nat} (h : Two w0 w (.slice (some ⟨g, 0, none⟩) n c) vo on out) (hg : w.grownBy w' (some g)) (hr : OwnN w' w0.heap.size v' on') (hv : v'.ownBlock = some g) : Two w0 w' v' vo on' out := by
  refine ⟨hr, World.ownsRow.kept h.o hg ?_, fun k hk => ?_, Below.grown h.bl hg h.bl.size (fun k hk => OwnL.row h.r k hk)⟩
  · cases c : vo.ownBlock with
    | none => exact Or.inl rfl
    | some j => exact Or.inr (fun e => h.ne j (by rw [e]; rfl) c)
  · rw [hv] at hk
    exact h.ne k hk
theorem getN (xs : List Nat) {j : Nat} (hj : j < xs.length) : (xs.map (fun x => ((x : Nat) : Int)))[j]! = ((xs[j]! : Nat) : Int) := by simp [hj]

/-- The longest of a row's first k (of like ones the first). -/
def lg (p : Nat → Int) (xs : List Nat) : Nat → Nat
  | 0 => 0
  | k + 1 => if p xs[lg p xs k]! < p xs[k]! then k else lg p xs k
theorem lg_lt (p : Nat → Int) (xs : List Nat) : ∀ k, 0 < k → lg p xs k < k
  | 1, _ => by
    show (if p xs[0]! < p xs[0]! then 0 else 0) < 1
    split <;> omega
  | k + 2, _ => by
    have := lg_lt p xs (k + 1) (by omega)
    show (if p xs[lg p xs (k + 1)]! < p xs[k + 1]! then k + 1 else lg p xs (k + 1)) < k + 2
    split <;> omega
theorem lg_max (p : Nat → Int) (xs : List Nat) : ∀ k j, j < k → p xs[j]! ≤ p xs[lg p xs k]!
  | k + 1, j, h => by
    show p xs[j]! ≤ p xs[if p xs[lg p xs k]! < p xs[k]! then k else lg p xs k]!
    by_cases c : p xs[lg p xs k]! < p xs[k]!
    · rw [if_pos c]
      rcases Nat.lt_or_ge j k with d | d
      · have := lg_max p xs k j d; omega
      · rw [show j = k by omega]; omega
    · rw [if_neg c]
      rcases Nat.lt_or_ge j k with d | d
      · exact lg_max p xs k j d
      · rw [show j = k by omega]; omega

set_option maxHeartbeats 4000000 in
theorem longest_any (a : Option Addr) (n c : Nat) (f : Nat → T3) (ra : Option Addr) (rc : Nat) (xs : List Nat) (w : World) (ha : TRow w a n c f) (hr : IRow w ra xs.length rc (fun j => ((xs[j]! : Nat) : Int))) (hx : ∀ x ∈ xs, x < n) (hl : xs.length ≤ 100000) (hl0 : 0 < xs.length) :
    Calls Try.prog 23 #[.slice a n c, .slice ra xs.length rc] w fun e w' => e = .returned (.int .i64 ((lg (pT f) xs xs.length : Nat) : Int)) ∧ Below w.heap.size w w' := by
  obtain ⟨h1, h2, h3⟩ := hr
  obtain ⟨b', o', rfl, hbl', hc'⟩ := h3 hl0
  have hn0 : 0 < n := by have := hx xs[0]! (by rw [getElem!_pos xs 0 hl0]; exact List.getElem_mem _); omega
  obtain ⟨g1, g2, g3⟩ := ha
  obtain ⟨b, o, rfl, hbl, hc⟩ := g3 hn0
  have HC := hide hc
  have HC' := hide hc'
  obtain ⟨L, hL⟩ : ∃ L, xs.length = L := ⟨_, rfl⟩
  have HX : Hid (∀ j, j < L → xs[j]! < n) := fun j hj => hx _ (by rw [getElem!_pos xs j (by omega)]; exact List.getElem_mem _)
  rw [hL] at h1 hl hl0 HC' ⊢
  have HL0 := hide hl0
  clear hc hc' hx hL hl0 g3 h3 hn0
  go_enter Try.func23, Try.ntmps23
  go_wp2_with fail
  go_loopw [5, 10] (fun vb vi wr => ∃ k : Nat, vi = .int .i64 (k : Int) ∧ vb = .int .i64 ((lg (pT f) xs k : Nat) : Int) ∧ k ≤ L ∧ Below w.heap.size w wr) (fun _ vi _ => L - (intOf vi).toNat)
  case atStart => exact ⟨0, rfl, rfl, Nat.zero_le _, Below.refl _ _⟩
  case round =>
    obtain ⟨k, rfl, rfl, hk, hb⟩ := hrel
    by_cases hlt : k < L
    · obtain ⟨m, hm⟩ : ∃ m, lg (pT f) xs k = m := ⟨_, rfl⟩
      have hmL : m < L := by
        rcases Nat.eq_zero_or_pos k with e | e
        · subst e; rw [← hm]; exact unhide HL0
        · have := lg_lt (pT f) xs k e; omega
      have r1 := unhide HC' k hlt
      have r2 := unhide HC' m hmL
      rw [← hb.cell (p := ⟨b', o' + k, none⟩) hbl'] at r1
      rw [← hb.cell (p := ⟨b', o' + m, none⟩) hbl'] at r2
      have t1 := unhide HX k hlt
      have t2 := unhide HX m hmL
      have HS : Hid (lg (pT f) xs (k + 1) = if (f xs[m]!).1 < (f xs[k]!).1 then k else m) := by
        show (if pT f xs[lg (pT f) xs k]! < pT f xs[k]! then k else lg (pT f) xs k) = _
        rw [hm]; rfl
      rw [hm]
      obtain ⟨i1, hi1⟩ : ∃ i, xs[k]! = i := ⟨_, rfl⟩
      obtain ⟨i2, hi2⟩ : ∃ i, xs[m]! = i := ⟨_, rfl⟩
      rw [hi1] at r1 t1 HS
      rw [hi2] at r2 t2 HS
      have ⟨s1, _, _⟩ := unhide HC i1 t1
      have ⟨s2, _, _⟩ := unhide HC i2 t2
      rw [← hb.cell (p := ⟨b, o + i1 * 3, none⟩) hbl] at s1
      rw [← hb.cell (p := ⟨b, o + i2 * 3, none⟩) hbl] at s2
      obtain ⟨p1, hp1⟩ : ∃ x, (f i1).1 = x := ⟨_, rfl⟩
      obtain ⟨p2, hp2⟩ : ∃ x, (f i2).1 = x := ⟨_, rfl⟩
      rw [hp1] at s1 HS
      rw [hp2] at s2 HS
      have e1 : (0 : Int) ≤ (k : Int) := by omega
      have e2 : (k : Int) < (L : Int) := by omega
      have e3 : (0 : Int) ≤ (m : Int) := by omega
      have e4 : (m : Int) < (L : Int) := by omega
      have e5 : (0 : Int) ≤ (i1 : Int) := by omega
      have e7 : (i1 : Int) < (n : Int) := by omega
      have e8 : (0 : Int) ≤ (i2 : Int) := by omega
      have e9 : (i2 : Int) < (n : Int) := by omega
      have e6 : IntKind.i64.wrap ((k : Int) + 1) = (k : Int) + 1 := by rw [IntKind.wrap_i64]; omega
      have HB := hide hb
      clear hb hi1 hi2 hp1 hp2 hm
      by_cases hlt2 : p2 < p1
      · rw [if_pos hlt2] at HS
        go_wp2_with fail
        go_quiet (fail)
        go_wp2_with fail
        exact ⟨⟨k + 1, by go_num, by rw [unhide HS], hlt, below_step (unhide HB) (below_drewN _ _)⟩, by simp [intOf]; omega⟩
      · rw [if_neg hlt2] at HS
        go_wp2_with fail
        go_quiet (fail)
        go_wp2_with fail
        exact ⟨⟨k + 1, by go_num, by rw [unhide HS], hlt, below_step (unhide HB) (below_drewN _ _)⟩, by simp [intOf]; omega⟩
    · obtain rfl : k = L := by omega
      have e1 : ¬ (k : Int) < (k : Int) := by omega
      obtain ⟨v, hv⟩ : ∃ v, lg (pT f) xs k = v := ⟨_, rfl⟩
      rw [hv]
      have HB := hide hb
      have HV := hide hv
      clear hb hv
      go_wp2
      go_ret
      exact ⟨by rw [unhide HV]; rfl, unhide HB⟩
end Go.Proofs.Ytmpigipeajdgcaa
