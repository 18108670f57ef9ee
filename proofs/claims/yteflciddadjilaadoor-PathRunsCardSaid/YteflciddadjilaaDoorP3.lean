/- A row of numbers of the call's own, and the sizes of jobs. -/
import Derived.Test.YteflciddadjilaaDoorP2
import Derived.Test.YteflciddadjilaaDoorM12
namespace Go.Proofs.YteflciddadjilaaDoor
open Go.RowKit Go.Sort Sim

/-- The cells of a row of numbers. -/
def lrow (lf : Nat → Int) (n : Nat) : List Value := (List.range n).map fun j => .int .i64 (lf j)
theorem lrow_length (lf : Nat → Int) (n : Nat) : (lrow lf n).length = n := by simp [lrow]
theorem lrow_get (lf : Nat → Int) {n j : Nat} (h : j < n) : (lrow lf n)[j]? = some (.int .i64 (lf j)) := by simp [lrow, h]
def updI (f : Nat → Int) (j : Nat) (v : Int) : Nat → Int := fun i => if i = j then v else f i
theorem lrow_set (lf : Nat → Int) {n j : Nat} (v : Int) : (lrow lf n).set j (.int .i64 v) = lrow (updI lf j v) n := by
  apply List.ext_getElem?
  intro i
  unfold lrow updI
  rw [List.getElem?_set]
  by_cases h : j = i
  · subst h
    by_cases hj : j < n <;> simp [hj]
  · by_cases hi : i < n <;> simp [h, hi, Ne.symm h]
theorem lrow_congr {f g : Nat → Int} {n : Nat} (h : ∀ j, j < n → f j = g j) : lrow f n = lrow g n := by
  unfold lrow
  exact List.map_congr_left fun j hj => by rw [h j (List.mem_range.1 hj)]

/-- Block G is the row. -/
def OwnI (w : World) (G n : Nat) (lf : Nat → Int) : Prop := w.heap[G]? = some (.cells (lrow lf n).toArray 3)
theorem OwnI.lt {w : World} {G n : Nat} {lf : Nat → Int} (h : OwnI w G n lf) : G < w.heap.size := (Array.getElem?_eq_some_iff.1 h).1
theorem OwnI.keep {w w' : World} {G n : Nat} {lf : Nat → Int} (h : OwnI w G n lf) (hb : Below w.heap.size w w') : OwnI w' G n lf := by
  unfold OwnI; rw [hb.block G h.lt]; exact h
theorem OwnI.cell {w : World} {G n : Nat} {lf : Nat → Int} (h : OwnI w G n lf) {j : Nat} (hj : j < n) : w.cell? ⟨G, j, none⟩ = some (.int .i64 (lf j)) := by
  unfold OwnI at h
  simp only [World.cell?, h]
  have := lrow_get lf hj
  simpa using this
theorem OwnI.free {w : World} {G n : Nat} {lf : Nat → Int} (h : OwnI w G n lf) (j : Nat) : w.frozen? ⟨G, j, none⟩ = false := by
  unfold OwnI at h; simp [World.frozen?, h]
theorem OwnI.set {w : World} {G n : Nat} {lf : Nat → Int} (h : OwnI w G n lf) (j : Nat) (v : Int) : OwnI (w.setCell ⟨G, j, none⟩ (.int .i64 v)) G n (updI lf j v) := by
  unfold OwnI at h ⊢
  rw [setCell_eq]
  simp only [mapBlock, Array.getElem?_modify, h, if_true, Option.map_some, onCells]
  rw [← lrow_set]
  simp
theorem OwnI.irow {w : World} {G n : Nat} {lf : Nat → Int} (h : OwnI w G n lf) (hn : n ≤ 9223372036854775807) : IRow w (some ⟨G, 0, none⟩) n n lf :=
  ⟨Nat.le_refl _, hn, fun _ => ⟨G, 0, rfl, h.lt, fun j hj => by rw [Nat.zero_add]; exact h.cell hj⟩⟩
theorem OwnI.congr {w : World} {G n : Nat} {f g : Nat → Int} (h : OwnI w G n f) (e : ∀ j, j < n → f j = g j) : OwnI w G n g := by
  unfold OwnI at h ⊢; rw [← lrow_congr e]; exact h

theorem Tryd.infoI : (Tryd.prog.info? 3).map (fun i => (i.zero, i.size, i.bytes)) = some (some (.int .i64 0), 1, 8) := by kernel_rfl
theorem make_ints (k : Nat) (h1 : k ≤ 1099511627776) (w : World) :
    (Instr.makeSlice 27 (.int .i64 (k : Int)) (.int .i64 (k : Int))).run Tryd.prog w = .ok (.slice (some ⟨w.heap.size, 0, none⟩) k k) (w.alloc (.cells (lrow (fun _ => 0) k).toArray 3)) := by
  obtain ⟨i, hi, hz0, hz1, hz2⟩ := info_parts Tryd.infoI
  have e : madeCells (Value.int .i64 0).cells ((k : Int).toNat * i.size) = (lrow (fun _ => 0) k).toArray := by
    rw [hz1]
    apply Array.ext
    · simp [madeCells, lrow]
    · intro j h1 h2
      simp [madeCells, lrow, Value.cells, Nat.mod_one]
  rw [run_make w 27 3 i (.int .i64 0) Tryd.underlying27 hi hz0 .i64 .i64 k k (by omega) (Int.le_refl _) (by rw [hz2]; omega) (by omega), e]
  simp
theorem make_own (w : World) (k : Nat) : OwnI (w.alloc (.cells (lrow (fun _ => 0) k).toArray 3)) w.heap.size k (fun _ => 0) := heap_alloc_new w _

set_option maxHeartbeats 1000000 in
theorem sizes_any (a : Option Addr) (n c : Nat) (f : Nat → T3) (w : World) (ha : TRow w a n c f) (hn : n ≤ 60) :
    Calls Tryd.prog 21 #[.slice a n c] w fun e w' => e = .returned (.slice (some ⟨w.heap.size, 0, none⟩) n n) ∧ OwnI w' w.heap.size n (fun j => (f j).2.1) ∧ Below w.heap.size w w' := by
  obtain ⟨h1, h2, h3⟩ := ha
  have mk := make_ints n (by omega) w
  have O0 := hide (make_own w n)
  have B0 := hide (alloc_below w (.cells (lrow (fun _ => 0) n).toArray 3))
  obtain ⟨W0, hW0⟩ : ∃ W, w.alloc (.cells (lrow (fun _ => 0) n).toArray 3) = W := ⟨_, rfl⟩
  rw [hW0] at mk O0 B0
  obtain ⟨G, hG⟩ : ∃ G, w.heap.size = G := ⟨_, rfl⟩
  rw [hG] at mk O0
  have HG := hide hG
  have H3 := hide h3
  rw [hG]
  clear h3 hW0 hG
  go_enter Tryd.func21, Tryd.ntmps21
  go_wp2
  clear mk
  go_loopw [11] (fun vi wr => ∃ m : Nat, vi = .int .i64 (m : Int) ∧ m ≤ n ∧ OwnI wr G n (fun j => if j < m then (f j).2.1 else 0) ∧ Below w.heap.size w wr) (fun vi _ => n - (intOf vi).toNat)
  case atStart => exact ⟨0, rfl, Nat.zero_le _, (unhide O0).congr (fun j _ => by simp), unhide B0⟩
  case round =>
    obtain ⟨m, rfl, hm, hO, hb⟩ := hrel
    by_cases hlt : m < n
    · obtain ⟨b, o, rfl, hbl, hc⟩ := unhide H3 (by omega)
      have ⟨k0, k1, k2⟩ := hc m hlt
      rw [← hb.cell (p := ⟨b, o + m * 3, none⟩) hbl] at k0
      rw [← hb.cell (p := ⟨b, o + m * 3 + 1, none⟩) hbl] at k1
      rw [← hb.cell (p := ⟨b, o + m * 3 + 2, none⟩) hbl] at k2
      obtain ⟨⟨x, y, z⟩, hf⟩ : ∃ t, f m = t := ⟨_, rfl⟩
      rw [hf] at k0 k1 k2
      simp only at k0 k1 k2
      have e2 : (0 : Int) ≤ (m : Int) := by omega
      have e3 : (m : Int) < (n : Int) := by omega
      have hO1 := hO.keep (alloc_below wr (.cells #[.int .i64 x, .int .i64 y, .int .i64 z] 49))
      have ⟨q0, q1, q2⟩ := box3 (w := wr) (x := .int .i64 x) (y := .int .i64 y) (z := .int .i64 z) (T := 49) (Below.refl _ _)
      have g0 := hO1.cell hlt
      have g1 := hO1.free m
      have FIN := hide (hO1.set m y)
      have FB : Hid (Below w.heap.size w ((wr.alloc (.cells #[.int .i64 x, .int .i64 y, .int .i64 z] 49)).setCell ⟨G, m, none⟩ (.int .i64 y))) := (below_step hb (alloc_below _ _)).setCell (Nat.le_of_eq (unhide HG)) _
      have HF := hide hf
      obtain ⟨x0, g0⟩ : ∃ u : Value, (wr.alloc (.cells #[.int .i64 x, .int .i64 y, .int .i64 z] 49)).cell? ⟨G, m, none⟩ = some u := ⟨_, g0⟩
      clear hc H3 hb hf hO hO1
      go_wp2
      refine ⟨⟨m + 1, by go_num, hlt, (unhide FIN).congr (fun j hj => ?_), unhide FB⟩, by simp [intOf]; omega⟩
      unfold updI
      by_cases hjm : j = m
      · subst hjm
        rw [if_pos rfl, if_pos (Nat.lt_succ_self _), unhide HF]
      · rw [if_neg hjm]
        show (if j < m then _ else _) = _
        by_cases hj2 : j < m
        · rw [if_pos hj2, if_pos (by omega)]
        · rw [if_neg hj2, if_neg (by omega)]
    · obtain rfl : m = n := by omega
      have e3 : ¬ (m : Int) < (m : Int) := by omega
      have FO : Hid (OwnI wr G m (fun j => (f j).2.1)) := hO.congr (fun j hj => by simp [hj])
      clear hO
      go_wp2
      go_ret
      exact ⟨rfl, unhide FO, by rw [← unhide HG]; exact hb⟩
end Go.Proofs.YteflciddadjilaaDoor
