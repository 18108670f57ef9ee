/- ratio.Words. -/
import Derived.Test.YtnmmfcoclpapdaaGreatDoorB63
namespace Go.Proofs.YtnmmfcoclpapdaaGreatDoor
open Go.RowKit Go.Sort Go.Shelf

/-- The cells of a row of texts. -/
def srw (lf : Nat → List UInt8) (n : Nat) : List Value := (List.range n).map fun j => .string ⟨(lf j).toArray⟩
theorem srw_get (lf : Nat → List UInt8) {n j : Nat} (h : j < n) : (srw lf n)[j]? = some (.string ⟨(lf j).toArray⟩) := by simp [srw, h]
def updS (f : Nat → List UInt8) (j : Nat) (v : List UInt8) : Nat → List UInt8 := fun i => if i = j then v else f i
theorem srw_set (lf : Nat → List UInt8) {n j : Nat} (v : List UInt8) : (srw lf n).set j (.string ⟨v.toArray⟩) = srw (updS lf j v) n := by
  apply List.ext_getElem?
  intro i
  unfold srw updS
  rw [List.getElem?_set]
  by_cases h : j = i
  · subst h
    by_cases hj : j < n <;> simp [hj]
  · by_cases hi : i < n <;> simp [h, hi, Ne.symm h]
theorem srw_congr {f g : Nat → List UInt8} {n : Nat} (h : ∀ j, j < n → f j = g j) : srw f n = srw g n := by
  unfold srw
  exact List.map_congr_left fun j hj => by rw [h j (List.mem_range.1 hj)]
/-- Block G is the row. -/
def OwnS (w : World) (G n : Nat) (lf : Nat → List UInt8) : Prop := w.heap[G]? = some (.cells (srw lf n).toArray 9)
theorem OwnS.lt {w : World} {G n : Nat} {lf : Nat → List UInt8} (h : OwnS w G n lf) : G < w.heap.size := (Array.getElem?_eq_some_iff.1 h).1
theorem OwnS.keep {w w' : World} {G n : Nat} {lf : Nat → List UInt8} (h : OwnS w G n lf) (hb : Below w.heap.size w w') : OwnS w' G n lf := by
  unfold OwnS; rw [hb.block G h.lt]; exact h
theorem OwnS.cell {w : World} {G n : Nat} {lf : Nat → List UInt8} (h : OwnS w G n lf) {j : Nat} (hj : j < n) : w.cell? ⟨G, j, none⟩ = some (.string ⟨(lf j).toArray⟩) := by
  unfold OwnS at h
  simp only [World.cell?, h]
  have := srw_get lf hj
  simpa using this
theorem OwnS.free {w : World} {G n : Nat} {lf : Nat → List UInt8} (h : OwnS w G n lf) (j : Nat) : w.frozen? ⟨G, j, none⟩ = false := by
  unfold OwnS at h; simp [World.frozen?, h]
theorem OwnS.set {w : World} {G n : Nat} {lf : Nat → List UInt8} (h : OwnS w G n lf) (j : Nat) (v : List UInt8) : OwnS (w.setCell ⟨G, j, none⟩ (.string ⟨v.toArray⟩)) G n (updS lf j v) := by
  unfold OwnS at h ⊢
  rw [setCell_eq]
  simp only [mapBlock, Array.getElem?_modify, h, if_true, Option.map_some, onCells]
  rw [← srw_set]
  simp
theorem OwnS.congr {w : World} {G n : Nat} {f g : Nat → List UInt8} (h : OwnS w G n f) (e : ∀ j, j < n → f j = g j) : OwnS w G n g := by
  unfold OwnS at h ⊢; rw [← srw_congr e]; exact h
theorem make_strs (k : Nat) (h1 : k ≤ 1000000) (w : World) :
    (Instr.makeSlice 60 (.int .i64 (k : Int)) (.int .i64 (k : Int))).run Tryz.prog w = .ok (.slice (some ⟨w.heap.size, 0, none⟩) k k) (w.alloc (.cells (srw (fun _ => []) k).toArray 9)) := by
  obtain ⟨i, hi, hz0, hz1, hz2⟩ := info_parts Tryz.infoS
  have e : madeCells (Value.string ⟨#[]⟩).cells ((k : Int).toNat * i.size) = (srw (fun _ => []) k).toArray := by
    rw [hz1]
    apply Array.ext
    · simp [madeCells, srw]
    · intro j h1 h2
      simp [madeCells, srw, Value.cells, Nat.mod_one]
  rw [run_make w 60 9 i (.string ⟨#[]⟩) Tryz.underlying60 hi hz0 .i64 .i64 k k (by omega) (Int.le_refl _) (by rw [hz2]; omega) (by omega), e]
  simp
theorem make_ownS (w : World) (k : Nat) : OwnS (w.alloc (.cells (srw (fun _ => []) k).toArray 9)) w.heap.size k (fun _ => []) := heap_alloc_new w _
/-- What stands in the row behind i rounds. -/
def wdl (qs : List Rat) (i : Nat) : Nat → List UInt8 := fun j => if j < i then qtext qs[j]! else []
theorem OwnS.row {w : World} {G : Nat} {qs : List Rat} (h : OwnS w G qs.length (wdl qs qs.length)) (hl : qs.length ≤ 1000000) : SRow w (.slice (some ⟨G, 0, none⟩) qs.length qs.length) (txts qs) := by
  refine ⟨some ⟨G, 0, none⟩, qs.length, by rw [txts_length], by rw [txts_length]; exact Nat.le_refl _, by omega, fun _ => ⟨G, 0, rfl, h.lt, fun j hj => ?_⟩⟩
  rw [txts_length] at hj
  rw [Nat.zero_add, h.cell hj, wdl, if_pos hj]
  simp [txts, hj]
set_option maxHeartbeats 8000000 in
set_option maxRecDepth 100000 in
set_option linter.unusedSimpArgs false in
theorem rwords_any (v : Value) (qs : List Rat) (J : Nat) (w : World) (h : LawIs w v qs) (hq : ∀ j, j < qs.length → RS qs[j]! J) (hJ : J ≤ 200000) (hl : qs.length ≤ 1000000) (htab : Tab w) (hjl : (Lib.join (txts qs) [32]).length ≤ 140737488355328) :
    Calls Tryz.prog 36 #[v] w fun e w' => e = .returned (.string ⟨(Lib.join (txts qs) [32]).toArray⟩) ∧ Below w.heap.size w w' := by
  obtain ⟨a, c, rfl, h1, h2, h3⟩ := h
  obtain ⟨S, hS⟩ : ∃ S : ByteArray, ⟨(Lib.join (txts qs) [32]).toArray⟩ = S := ⟨_, rfl⟩
  have HJS : Hid (∀ W v, SRow W v (txts qs) → Calls Tryz.prog 93 #[v, .string ⟨#[32]⟩] W fun e w' => e = .returned (.string S) ∧ Below W.heap.size W w') := fun W v hr => by rw [← hS]; exact joins_any v (txts qs) W hr (by rw [txts_length]; exact hl) hjl
  rw [hS]
  have HRW : Hid (∀ W G, OwnS W G qs.length (wdl qs qs.length) → SRow W (.slice (some ⟨G, 0, none⟩) qs.length qs.length) (txts qs)) := fun W G hO => hO.row hl
  obtain ⟨n, hn⟩ : ∃ n, qs.length = n := ⟨_, rfl⟩
  rw [hn] at h1 h3 hl HRW ⊢
  have H3 := hide h3
  have HQ := hide hq
  have HJ := hide hJ
  have HN := hide hn
  have HTB := hide htab
  have mk := make_strs n hl w
  have O0 := hide (make_ownS w n)
  have B0 := hide (abelow w (.cells (srw (fun _ => []) n).toArray 9))
  obtain ⟨W0, hW0⟩ : ∃ W, w.alloc (.cells (srw (fun _ => []) n).toArray 9) = W := ⟨_, rfl⟩
  rw [hW0] at mk O0 B0
  obtain ⟨G, hG⟩ : ∃ G, w.heap.size = G := ⟨_, rfl⟩
  have HGE := hide hG
  rw [hG] at mk O0
  clear h3 hq hJ hn htab hS hjl hW0 hG
  go_enter Tryz.func36, Tryz.ntmps36
  go_wp2_with fail
  clear mk
  go_loopw [11] (fun vi wr => ∃ (i : Nat), vi = .int .i64 (i : Int) ∧ i ≤ n ∧ OwnS wr G n (wdl qs i) ∧ Below w.heap.size w wr) (fun vi _ => n - (intOf vi).toNat)
  case atStart => exact ⟨0, rfl, Nat.zero_le _, (unhide O0).congr (fun j _ => by simp [wdl]), unhide B0⟩
  case round =>
    obtain ⟨i, rfl, hi, hO, hb⟩ := hrel
    have hnn := unhide HN
    by_cases hlt : i < n
    · obtain ⟨b, o, rfl, hblt, hcs⟩ := unhide H3 (by omega)
      obtain ⟨s, a1, a2, n1, c1, n2, c2, k0, k1, k2, kx⟩ := hcs i hlt
      rw [← hb.cell (p := ⟨b, o + i * 3, none⟩) hblt] at k0
      rw [← hb.cell (p := ⟨b, o + i * 3 + 1, none⟩) hblt] at k1
      rw [← hb.cell (p := ⟨b, o + i * 3 + 2, none⟩) hblt] at k2
      have HF := hide (textR_any (.agg #[.bool s, .slice a1 n1 c1, .slice a2 n2 c2]) qs[i]! (wr.alloc (.cells #[.bool s, .slice a1 n1 c1, .slice a2 n2 c2] 27)) ((kx.below hb).below (abelow _ _)) J (unhide HQ i (by omega)) (Nat.le_trans (unhide HJ) (by decide)) (tab_below (unhide HTB) (bstep hb (abelow _ _))))
      have HO1 := hide (hO.keep (abelow wr (.cells #[.bool s, .slice a1 n1 c1, .slice a2 n2 c2] 27)))
      have HB1 := hide (bstep hb (abelow wr (.cells #[.bool s, .slice a1 n1 c1, .slice a2 n2 c2] 27)))
      clear kx
      have hi0 : (0 : Int) ≤ (i : Int) := by omega
      have hi1 : (i : Int) < (n : Int) := by omega
      obtain ⟨tx, htx⟩ : ∃ t, qtext qs[i]! = t := ⟨_, rfl⟩
      have HTX := hide htx
      rw [htx] at HF
      clear hO hb hcs htx hnn O0 B0
      go_wp2_with fail
      refine (unhide HF).mono ?_
      rintro e w2 ⟨rfl, hb2⟩
      have O2 := (unhide HO1).keep hb2
      have fr := O2.free i
      have ce := O2.cell hlt
      have FIN : Hid (OwnS (w2.setCell ⟨G, i, none⟩ (.string ⟨tx.toArray⟩)) G n (wdl qs (i + 1)) ∧ Below w.heap.size w (w2.setCell ⟨G, i, none⟩ (.string ⟨tx.toArray⟩))) := ⟨(O2.set i tx).congr (fun j _ => by
        unfold updS wdl
        by_cases hj : j = i
        · subst hj; rw [if_pos rfl, if_pos (by omega), ← unhide HTX]
        · rw [if_neg hj]
          by_cases h2 : j < i
          · rw [if_pos h2, if_pos (by omega)]
          · rw [if_neg h2, if_neg (by omega)]), (bstep (unhide HB1) hb2).setCell (p := ⟨G, i, none⟩) (Nat.le_of_eq (unhide HGE)) _⟩
      clear O2 hb2 HF HO1 HB1
      go_wp2_with fail
      exact ⟨⟨i + 1, by go_num, hlt, (unhide FIN).1, (unhide FIN).2⟩, by simp [intOf]; omega⟩
    · obtain rfl : i = n := by omega
      have e1 := unhide HJS _ _ (unhide HRW _ _ hO)
      have HE := hide e1
      have HB := hide hb
      clear hO hb H3 e1 hnn O0 B0 HJS HRW
      go_wp2_with fail
      refine (unhide HE).mono ?_
      rintro e w3 ⟨rfl, hb3⟩
      have HB3 := hide (bstep (unhide HB) hb3)
      clear hb3 HB HE
      go_wp2
      go_ret
      exact ⟨rfl, unhide HB3⟩
end Go.Proofs.YtnmmfcoclpapdaaGreatDoor
