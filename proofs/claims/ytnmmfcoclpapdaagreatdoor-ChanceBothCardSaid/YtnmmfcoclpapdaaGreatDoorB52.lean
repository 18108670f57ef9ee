/- The document's Both. -/
import Derived.Test.YtnmmfcoclpapdaaGreatDoorB50
import Derived.Test.YtnmmfcoclpapdaaGreatDoorA18
namespace Go.Proofs.YtnmmfcoclpapdaaGreatDoor
open Go.RowKit Go.Sort Go.Shelf

/-- Place s of the sums behind x amounts of the first. -/
def cv (A B : List Rat) (n s : Nat) : Nat → Rat
  | 0 => 0
  | x + 1 => cv A B n s x + (if x ≤ s ∧ s - x < n then A[x]! * B[s - x]! else 0)
theorem rowAdd_len (B : List Rat) (x : Rat) (i : Nat) : ∀ j l, (rowAdd B x i j l).length = l.length
  | 0, l => rfl
  | j + 1, l => by
    show (List.set _ _ _).length = _
    rw [List.length_set]
    exact rowAdd_len B x i j l
theorem rowAdd_get (B : List Rat) (x : Rat) (i : Nat) : ∀ j l, i + j ≤ l.length → ∀ s, (rowAdd B x i j l)[s]! = l[s]! + (if i ≤ s ∧ s - i < j then x * B[s - i]! else 0)
  | 0, l, _, s => by
    rw [if_neg (by omega), Rat.add_zero]
    rfl
  | j + 1, l, h, s => by
    have ih := rowAdd_get B x i j l (by omega)
    show ((rowAdd B x i j l).set (i + j) ((rowAdd B x i j l)[i + j]! + x * B[j]!))[s]! = _
    by_cases e : s = i + j
    · subst e
      have hl : i + j < (rowAdd B x i j l).length := by rw [rowAdd_len]; omega
      have e1 : ((rowAdd B x i j l).set (i + j) ((rowAdd B x i j l)[i + j]! + x * B[j]!))[i + j]! = (rowAdd B x i j l)[i + j]! + x * B[j]! := by simp [hl]
      rw [e1, ih, if_neg (by omega), if_pos (by omega), Rat.add_zero, show i + j - i = j by omega]
    · have e1 : ((rowAdd B x i j l).set (i + j) ((rowAdd B x i j l)[i + j]! + x * B[j]!))[s]! = (rowAdd B x i j l)[s]! := by simp [Ne.symm e]
      rw [e1, ih]
      by_cases h2 : i ≤ s ∧ s - i < j
      · rw [if_pos h2, if_pos (by omega)]
      · rw [if_neg h2, if_neg (by omega)]
theorem convK_len (A B : List Rat) (n K : Nat) : ∀ i, (conv A B n K i).length = K
  | 0 => by simp [conv]
  | i + 1 => by rw [conv, rowAdd_len]; exact convK_len A B n K i
theorem conv_get (A B : List Rat) (n K : Nat) : ∀ i, i + n ≤ K + 1 → ∀ s, s < K → (conv A B n K i)[s]! = cv A B n s i
  | 0, _, s, hs => by simp [conv, cv, hs]
  | i + 1, h, s, hs => by
    rw [conv, rowAdd_get _ _ _ _ _ (by rw [convK_len]; omega), conv_get A B n K i (by omega) s hs, cv]
theorem cv_RS {A B : List Rat} {n s : Nat} (hA : ∀ j, j < A.length → RS A[j]! 1) (hB : ∀ j, j < B.length → RS B[j]! 1) (hn : n ≤ B.length) : ∀ x, x ≤ A.length → RS (cv A B n s x) (x * 3 + 1)
  | 0, _ => RS.zero
  | x + 1, h => by
    rw [cv]
    have ih := cv_RS hA hB hn (s := s) x (by omega)
    by_cases c : x ≤ s ∧ s - x < n
    · rw [if_pos c]
      exact (ih.add ((hA x (by omega)).mul (hB (s - x) (by omega)))).mono (by omega)
    · rw [if_neg c, Rat.add_zero]
      exact ih.mono (by omega)
/-- Cells of pointers, or none. -/
def pcells (os : List (Option Nat)) : List Value := os.map fun o => .pointer (o.map fun g => ⟨g, 0, none⟩)
theorem pcells_set (os : List (Option Nat)) (j x : Nat) : pcells (os.set j (some x)) = (pcells os).set j (.pointer (some ⟨x, 0, none⟩)) := by simp [pcells, List.map_set]
theorem make_ptrs (k : Nat) (h1 : k ≤ 1099511627776) (w : World) :
    (Instr.makeSlice 56 (.int .i64 (k : Int)) (.int .i64 (k : Int))).run Tryz.prog w = .ok (.slice (some ⟨w.heap.size, 0, none⟩) k k) (w.alloc (.cells (pcells (List.replicate k none)).toArray 29)) := by
  obtain ⟨i, hi, hz0, hz1, hz2⟩ := info_parts Tryz.infoP
  have e : madeCells (Value.pointer none).cells ((k : Int).toNat * i.size) = (pcells (List.replicate k none)).toArray := by
    rw [hz1]
    apply Array.ext
    · simp [madeCells, pcells]
    · intro j h1 h2
      simp [madeCells, pcells, Value.cells, Nat.mod_one]
  rw [run_make w 56 29 i (.pointer none) Tryz.underlying56 hi hz0 .i64 .i64 k k (by omega) (Int.le_refl _) (by rw [hz2]; omega) (by omega), e]
  simp
theorem BInt.setPtr {w : World} {b o : Nat} {N : Int} {p : Addr} {q : Option Addr} {v : Value} (h : BInt w b o N) (hp : w.cell? p = some (.pointer q)) : BInt (w.setCell p v) b o N := by
  obtain ⟨a, n, c, e, hn⟩ := h.ab
  have n0 : p ≠ ⟨b, o, none⟩ := fun e' => by rw [e', h.sg] at hp; cases hp
  have n1 : p ≠ ⟨b, o + 1, none⟩ := fun e' => by rw [e', e] at hp; cases hp
  refine ⟨?_, ⟨a, n, c, ?_, hn.setAt _ _ (fun x e' => by rw [hp] at e'; cases e')⟩, by simp [h.fs], by simp [h.fa], by simpa [World.setCell] using h.lt⟩
  · rw [World.cell?_setCell_other _ _ _ _ n0]; exact h.sg
  · rw [World.cell?_setCell_other _ _ _ _ n1]; exact e
theorem BRz.setPtr {w : World} {b o : Nat} {q : Rat} {p : Addr} {r : Option Addr} {v : Value} (h : BRz w b o q) (hp : w.cell? p = some (.pointer r)) : BRz (w.setCell p v) b o q :=
  ⟨h.1.setPtr hp, h.2.imp (fun k => k.setPtr hp) (fun k => ⟨k.1, k.2.setPtr hp⟩)⟩
/-- A row of the call's own that is filled place by place. -/
structure OutAt (w wr : World) (g K : Nat) (os : List (Option Nat)) (f : Nat → Rat) (i : Nat) : Prop where
  row : wr.heap[g]? = some (.cells (pcells os).toArray 29)
  len : os.length = K
  rat : ∀ j, j < i → ∃ x, os[j]! = some x ∧ BRz wr x 0 (f j)
  bl : Below w.heap.size w wr
  gl : w.heap.size ≤ g
theorem OutAt.keep {w wr w' : World} {g K : Nat} {os : List (Option Nat)} {f : Nat → Rat} {i : Nat} (h : OutAt w wr g K os f i) (hb : Below wr.heap.size wr w') : OutAt w w' g K os f i :=
  ⟨by rw [hb.block _ (Array.getElem?_eq_some_iff.1 h.row).1]; exact h.row, h.len, fun j hj => by obtain ⟨x, e, r⟩ := h.rat j hj; exact ⟨x, e, r.below hb⟩, bstep h.bl hb, h.gl⟩
theorem OutAt.cell {w wr : World} {g K : Nat} {os : List (Option Nat)} {f : Nat → Rat} {i : Nat} (h : OutAt w wr g K os f i) {j : Nat} (hj : j < K) : wr.cell? ⟨g, j, none⟩ = some (.pointer (os[j]!.map fun g => ⟨g, 0, none⟩)) ∧ wr.frozen? ⟨g, j, none⟩ = false := by
  have hl := h.len
  refine ⟨?_, by simp [World.frozen?, h.row]⟩
  simp only [World.cell?, h.row]
  simp [pcells, show j < os.length by omega]
theorem OutAt.set {w wr : World} {g K : Nat} {os : List (Option Nat)} {f : Nat → Rat} {i j x : Nat} {q : Rat} (h : OutAt w wr g K os f i) (hj : j < K) (hr : BRz wr x 0 q) (hi : i ≤ j) (e : f j = q) :
    OutAt w (wr.setCell ⟨g, j, none⟩ (.pointer (some ⟨x, 0, none⟩))) g K (os.set j (some x)) f i ∧ BRz (wr.setCell ⟨g, j, none⟩ (.pointer (some ⟨x, 0, none⟩))) x 0 (f j) := by
  have hp := (h.cell hj).1
  have hl := h.len
  refine ⟨⟨?_, by rw [List.length_set]; exact hl, fun k hk => ?_, h.bl.setCell h.gl _, h.gl⟩, by rw [e]; exact hr.setPtr hp⟩
  · rw [setCell_eq]
    simp only [mapBlock, Array.getElem?_modify, h.row, if_true, Option.map_some, onCells]
    rw [pcells_set]
    simp
  · obtain ⟨y, ey, ry⟩ := h.rat k hk
    exact ⟨y, by simp [show j ≠ k by omega]; simpa using ey, ry.setPtr hp⟩
theorem OutAt.list {w wr : World} {g K : Nat} {os : List (Option Nat)} {f : Nat → Rat} {qs : List Rat} (h : OutAt w wr g K os f K) (hl : qs.length = K) (hK : K ≤ 1000000) (hf : ∀ j, j < K → f j = qs[j]!) : RList wr (.slice (some ⟨g, 0, none⟩) K K) qs := by
  refine ⟨some ⟨g, 0, none⟩, K, by rw [hl], by omega, by omega, fun _ => ⟨g, 0, rfl, (Array.getElem?_eq_some_iff.1 h.row).1, fun j hj => ?_⟩⟩
  obtain ⟨x, e, r⟩ := h.rat j (by omega)
  refine ⟨x, ?_, by rw [← hf j (by omega)]; exact r⟩
  have hc := (h.cell (j := j) (by omega)).1
  rw [e] at hc
  rw [Nat.zero_add]
  exact hc
theorem take_get' {qs : List Rat} {k j : Nat} (h : j < k) : (qs.take k)[j]! = qs[j]! := by
  rw [List.getElem!_eq_getElem?_getD, List.getElem!_eq_getElem?_getD, List.getElem?_take_of_lt h]
set_option maxHeartbeats 8000000 in
set_option maxRecDepth 100000 in
set_option linter.unusedSimpArgs false in
theorem refBoth_any (va vb : Value) (A B : List Rat) (w : World) (ha : RList w va A) (hb : RList w vb B) (hA : ∀ j, j < A.length → RS A[j]! 1) (hB : ∀ j, j < B.length → RS B[j]! 1) (pa : 0 < A.length) (pb : 0 < B.length) (la : A.length ≤ 130) (lb : B.length ≤ 130) :
    Calls Tryz.prog 60 #[va, vb] w fun e w' => ∃ v, e = .returned v ∧ RList w' v (conv A B (tlen B B.length) (tlen A A.length + tlen B B.length - 1) (tlen A A.length)) ∧ Below w.heap.size w w' := by
  have HTA := hide (refTrim_any va A w ha pa (by omega))
  have HTB : Hid (∀ W, Below w.heap.size w W → Calls Tryz.prog 51 #[vb] W fun e w' => ∃ v, e = .returned v ∧ RList w' v (B.take (tlen B B.length)) ∧ Below W.heap.size W w') := fun W hW => refTrim_any vb B W (hb.below hW) pb (by omega)
  obtain ⟨m, hm⟩ : ∃ m, tlen A A.length = m := ⟨_, rfl⟩
  obtain ⟨n, hn⟩ : ∃ n, tlen B B.length = n := ⟨_, rfl⟩
  have m0 : 0 < m := by rw [← hm]; exact tlen_pos A pa
  have n0 : 0 < n := by rw [← hn]; exact tlen_pos B pb
  have m1 : m ≤ A.length := by rw [← hm]; exact tlen_le A _
  have n1 : n ≤ B.length := by rw [← hn]; exact tlen_le B _
  rw [hm] at HTA ⊢
  rw [hn] at HTB ⊢
  obtain ⟨K, hK⟩ : ∃ K, m + n - 1 = K := ⟨_, rfl⟩
  rw [hK]
  have HA := hide hA
  have HB := hide hB
  have HM : Hid (0 < m ∧ m ≤ A.length ∧ m ≤ 130 ∧ 0 < n ∧ n ≤ B.length ∧ n ≤ 130 ∧ m + n - 1 = K) := ⟨m0, m1, by omega, n0, n1, by omega, hK⟩
  clear ha hb hA hB pa pb la lb hm hn m0 n0 m1 n1 hK
  go_enter Tryz.func60, Tryz.ntmps60
  go_wp2_with fail
  refine (unhide HTA).mono ?_
  rintro e w1 ⟨v1, rfl, hv1, hb1⟩
  have HV1 := hide hv1
  have HB1 := hide hb1
  have HT2 := hide (unhide HTB _ hb1)
  clear hv1 hb1 HTA HTB
  go_wp2_with fail
  refine (unhide HT2).mono ?_
  rintro e w2 ⟨v2, rfl, hv2, hb2⟩
  have HB2 := hide (bstep (unhide HB1) hb2)
  have hva := (unhide HV1).below hb2
  have hvb := hv2
  clear hv2 hb2 HT2 HV1
  obtain ⟨aa, ca, rfl, ra1, ra2, ra3⟩ := hva
  obtain ⟨ab, cb, rfl, rb1, rb2, rb3⟩ := hvb
  have hla : (A.take m).length = m := by rw [List.length_take]; have := unhide HM; omega
  have hlb : (B.take n).length = n := by rw [List.length_take]; have := unhide HM; omega
  rw [hla] at ra1 ra3 ⊢
  rw [hlb] at rb1 rb3 ⊢
  obtain ⟨ba, oa, rfl, balt, bac⟩ := ra3 (unhide HM).1
  obtain ⟨bb, ob, rfl, bblt, bbc⟩ := rb3 (unhide HM).2.2.2.1
  have HCA : Hid (∀ j, j < m → ∃ x, w2.cell? ⟨ba, oa + j, none⟩ = some (.pointer (some ⟨x, 0, none⟩)) ∧ BRz w2 x 0 A[j]!) := fun j hj => by
    obtain ⟨x, e1, e2⟩ := bac j hj
    rw [take_get' hj] at e2
    exact ⟨x, e1, e2⟩
  have HCB : Hid (∀ j, j < n → ∃ x, w2.cell? ⟨bb, ob + j, none⟩ = some (.pointer (some ⟨x, 0, none⟩)) ∧ BRz w2 x 0 B[j]!) := fun j hj => by
    obtain ⟨x, e1, e2⟩ := bbc j hj
    rw [take_get' hj] at e2
    exact ⟨x, e1, e2⟩
  have HAL := hide balt
  have HBL := hide bblt
  have hM := unhide HM
  have k1 : IntKind.i64.wrap ((m : Int) + (n : Int)) = (m : Int) + (n : Int) := by rw [IntKind.wrap_i64]; omega
  have k2 : IntKind.i64.wrap ((m : Int) + (n : Int) - 1) = (K : Int) := by rw [IntKind.wrap_i64]; omega
  have qmk := make_ptrs K (by omega) w2
  have bA := abelow w2 (.cells (pcells (List.replicate K none)).toArray 29)
  have S0 : OutAt w (w2.alloc (.cells (pcells (List.replicate K none)).toArray 29)) w2.heap.size K (List.replicate K none) (fun s => cv A B n s m) 0 := ⟨heap_alloc_new w2 _, by simp, fun j hj => absurd hj (Nat.not_lt_zero _), bstep (unhide HB2) bA, (unhide HB2).size⟩
  obtain ⟨W3, hW3⟩ : ∃ W, w2.alloc (.cells (pcells (List.replicate K none)).toArray 29) = W := ⟨_, rfl⟩
  obtain ⟨g, hg⟩ : ∃ g, w2.heap.size = g := ⟨_, rfl⟩
  rw [hW3, hg] at qmk S0
  rw [hW3] at bA
  have HS0 := hide S0
  have HBA := hide bA
  have HGG := hide hg
  clear S0 bA hW3 hg ra1 ra2 ra3 rb1 rb2 rb3 bac bbc balt bblt hla hlb hM
  go_wp2_with fail
  clear qmk
  go_loopw [22] (fun vs wr => ∃ (s : Nat) (os : List (Option Nat)), vs = .int .i64 (s : Int) ∧ s ≤ K ∧ OutAt w wr g K os (fun s => cv A B n s m) s ∧ Below w2.heap.size w2 wr) (fun vs _ => K - (intOf vs).toNat)
  case atStart => exact ⟨0, _, rfl, Nat.zero_le _, unhide HS0, unhide HBA⟩
  case round =>
    obtain ⟨s, os, rfl, hs, T, hbw⟩ := hrel
    obtain ⟨wq, rfl⟩ : ∃ W, W = wr := ⟨_, rfl⟩
    have hM := unhide HM
    by_cases hlt : s < K
    · have f0 : (0 : Int) ≤ (s : Int) := by omega
      have f1 : (s : Int) < (K : Int) := by omega
      have f3 : IntKind.i64.wrap ((s : Int) + 1) = (s : Int) + 1 := by rw [IntKind.wrap_i64]; omega
      have HIN := hide (refIntz_any 0 (by decide) (by decide) wq)
      rw [Rat.intCast_zero] at HIN
      have HT := hide T
      have HSK := hide hlt
      have HBW := hide hbw
      clear T hbw hM hs
      go_wp2_with fail
      refine (unhide HIN).mono ?_
      rintro e w5 ⟨b5, rfl, -, hr5, hb5⟩
      have T5 := (unhide HT).keep hb5
      have T5' : OutAt w w5 g K os (fun t => if t = s then 0 else cv A B n t m) s := ⟨T5.row, T5.len, fun j hj => by
        obtain ⟨x, e1, e2⟩ := T5.rat j hj
        exact ⟨x, e1, by simp [show j ≠ s by omega]; exact e2⟩, T5.bl, T5.gl⟩
      have ⟨S1, S2⟩ := T5'.set hlt hr5 (Nat.le_refl _) (by simp)
      have ⟨kc, kf⟩ := T5.cell hlt
      have hb6 : Below w2.heap.size w2 (w5.setCell ⟨g, s, none⟩ (.pointer (some ⟨b5, 0, none⟩))) := (bstep (unhide HBW) hb5).setCell (p := ⟨g, s, none⟩) (Nat.le_of_eq (unhide HGG)) _
      obtain ⟨W6, hW6⟩ : ∃ W, w5.setCell ⟨g, s, none⟩ (.pointer (some ⟨b5, 0, none⟩)) = W := ⟨_, rfl⟩
      rw [hW6] at S1 S2 hb6
      have hlen := T5.len
      have HS1 : Hid (OutAt w W6 g K (os.set s (some b5)) (fun s => cv A B n s m) s) := ⟨S1.row, S1.len, fun j hj => by
        obtain ⟨x, e1, e2⟩ := S1.rat j hj
        refine ⟨x, e1, ?_⟩
        simp [show j ≠ s by omega] at e2
        exact e2, S1.bl, S1.gl⟩
      have HS2 : Hid (BRz W6 b5 0 (cv A B n s 0)) := by
        simp at S2
        exact S2
      have HOS : Hid ((os.set s (some b5))[s]! = some b5) := by show _ = _; simp [show s < os.length by omega]
      have HB6 := hide hb6
      clear hr5 hb5 T5 T5' S1 S2 HIN hb6 hlen
      go_wp2_with fail
      go_loopw [31] (fun vx wr => ∃ (x xs : Nat) (os : List (Option Nat)), vx = .int .i64 (x : Int) ∧ x ≤ m ∧ OutAt w wr g K os (fun s => cv A B n s m) s ∧ os[s]! = some xs ∧ BRz wr xs 0 (cv A B n s x) ∧ Below w2.heap.size w2 wr) (fun vx _ => m - (intOf vx).toNat)
      case atStart => exact ⟨0, b5, _, rfl, Nat.zero_le _, unhide HS1, unhide HOS, unhide HS2, unhide HB6⟩
      case round =>
        obtain ⟨x, xs, os2, rfl, hx, T, hxs, hrx, hbx⟩ := hrel
        obtain ⟨wv, rfl⟩ : ∃ W, W = wr := ⟨_, rfl⟩
        have hM := unhide HM
        have hsK := unhide HSK
        by_cases hxm : x < m
        · have g0 : (0 : Int) ≤ (x : Int) := by omega
          have g1 : (x : Int) < (m : Int) := by omega
          have g3 : IntKind.i64.wrap ((x : Int) + 1) = (x : Int) + 1 := by rw [IntKind.wrap_i64]; omega
          have g4 : IntKind.i64.wrap ((s : Int) - (x : Int)) = (s : Int) - (x : Int) := by rw [IntKind.wrap_i64]; omega
          by_cases hc : x ≤ s ∧ s - x < n
          · obtain ⟨y, hy⟩ : ∃ y, s - x = y := ⟨_, rfl⟩
            have g5 : (s : Int) - (x : Int) = (y : Int) := by omega
            rw [g5] at g4
            have g6 : (0 : Int) ≤ (y : Int) := by omega
            have g7 : (y : Int) < (n : Int) := by omega
            obtain ⟨xa, ea, ra⟩ := unhide HCA x hxm
            obtain ⟨xb, eb, rb⟩ := unhide HCB y (by omega)
            have ecv : cv A B n s (x + 1) = cv A B n s x + A[x]! * B[y]! := by rw [cv, if_pos hc, hy]
            have HMU : Hid (∀ W, Below wv.heap.size wv W → Calls Tryz.prog 26 #[.pointer (some ⟨xa, 0, none⟩), .pointer (some ⟨xb, 0, none⟩)] W (NewsZ W (A[x]! * B[y]!))) := fun W hW => refMul_any xa xb 1 1 _ _ W ((ra.below hbx).below hW) ((rb.below hbx).below hW) (unhide HA x (by omega)) (unhide HB y (by omega)) (by decide)
            have r2 : RS (A[x]! * B[y]!) (1 + 1) := (unhide HA x (by omega)).mul (unhide HB y (by omega))
            have r1 : RS (cv A B n s x) (x * 3 + 1) := cv_RS (unhide HA) (unhide HB) (by omega) x (by omega)
            have r3 : x * 3 + 1 + (1 + 1) ≤ 400000 := by omega
            have HAD : Hid (∀ W b1, Below wv.heap.size wv W → BRz W b1 0 (A[x]! * B[y]!) → Calls Tryz.prog 22 #[.pointer (some ⟨xs, 0, none⟩), .pointer (some ⟨b1, 0, none⟩)] W (NewsZ W (cv A B n s (x + 1)))) := fun W b1 hW hr => by
              rw [ecv]
              exact refAdd_any xs b1 (x * 3 + 1) (1 + 1) _ _ W (hrx.below hW) hr r1 r2 r3
            have kx := (T.cell hsK).1
            rw [hxs] at kx
            have HCC : Hid (∀ W, Below wv.heap.size wv W → (fun w' : World => w'.cell? ⟨g, s, none⟩ = some (.pointer (some ⟨xs, 0, none⟩)) ∧ w'.cell? ⟨ba, oa + x, none⟩ = some (.pointer (some ⟨xa, 0, none⟩)) ∧ w'.cell? ⟨bb, ob + y, none⟩ = some (.pointer (some ⟨xb, 0, none⟩))) W) := fun W hW => ⟨by rw [hW.cell (p := ⟨g, s, none⟩) (Array.getElem?_eq_some_iff.1 T.row).1]; exact kx, by rw [hW.cell (p := ⟨ba, oa + x, none⟩) (Nat.lt_of_lt_of_le (unhide HAL) hbx.size), hbx.cell (p := ⟨ba, oa + x, none⟩) (unhide HAL)]; exact ea, by rw [hW.cell (p := ⟨bb, ob + y, none⟩) (Nat.lt_of_lt_of_le (unhide HBL) hbx.size), hbx.cell (p := ⟨bb, ob + y, none⟩) (unhide HBL)]; exact eb⟩
            have hfun : ∀ W, OutAt w W g K os2 (fun s => cv A B n s m) s → OutAt w W g K os2 (fun t => if t = s then cv A B n s (x + 1) else cv A B n t m) s := fun W h => ⟨h.row, h.len, fun j hj => by
              obtain ⟨z, e1, e2⟩ := h.rat j hj
              exact ⟨z, e1, by simp [show j ≠ s by omega]; exact e2⟩, h.bl, h.gl⟩
            have HOT := hide (hfun wv T)
            have HBX := hide hbx
            have HLN := hide T.len
            clear T hrx hbx ea eb ra rb ecv kx hc hM hsK hxs hx hfun r1 r2 r3
            go_wp2_with fail
            (try rw [g5])
            refine wp_region_till (fun w' : World => w'.cell? ⟨g, s, none⟩ = some (.pointer (some ⟨xs, 0, none⟩)) ∧ w'.cell? ⟨ba, oa + x, none⟩ = some (.pointer (some ⟨xa, 0, none⟩)) ∧ w'.cell? ⟨bb, ob + y, none⟩ = some (.pointer (some ⟨xb, 0, none⟩))) 17 (by kernel_rfl) ?_
            have bd0 : Below wv.heap.size wv wv.drew := (Below.refl _ _).drew
            have hC0 : (fun w' : World => w'.cell? ⟨g, s, none⟩ = some (.pointer (some ⟨xs, 0, none⟩)) ∧ w'.cell? ⟨ba, oa + x, none⟩ = some (.pointer (some ⟨xa, 0, none⟩)) ∧ w'.cell? ⟨bb, ob + y, none⟩ = some (.pointer (some ⟨xb, 0, none⟩))) wv.drew := unhide HCC _ bd0
            refine wpTill_pure (i := 0) (v := ?_) rfl (by kernel_rfl) (by kernel_rfl) (by kernel_rfl) (by kernel_rfl) (fun _ _ _ h => h) (Or.inl ⟨by rfl, ?_⟩) (fun _ => hC0) ?_
            rotate_left
            · intro w hSw; clear hSw; go_simp; (try with_reducible rfl)
            (try simp only [List.getElem_toArray, List.getElem_cons_succ, List.getElem_cons_zero])
            (try simp only [Act.put, List.setIfInBounds_toArray, List.set_cons_zero, List.set_cons_succ])
            refine wpTill_pure (i := 1) (v := ?_) rfl (by kernel_rfl) (by kernel_rfl) (by kernel_rfl) (by kernel_rfl) (fun _ _ _ h => h) (Or.inl ⟨by rfl, ?_⟩) (fun _ => hC0) ?_
            rotate_left
            · intro w hSw; clear hSw; go_simp; (try with_reducible rfl)
            (try simp only [List.getElem_toArray, List.getElem_cons_succ, List.getElem_cons_zero])
            (try simp only [Act.put, List.setIfInBounds_toArray, List.set_cons_zero, List.set_cons_succ])
            refine wpTill_pure (i := 2) (v := ?_) rfl (by kernel_rfl) (by kernel_rfl) (by kernel_rfl) (by kernel_rfl) (fun _ _ _ h => h) (Or.inl ⟨by rfl, ?_⟩) (fun _ => hC0) ?_
            rotate_left
            · intro w hSw; clear hSw; go_simp; (try with_reducible rfl)
            (try simp only [List.getElem_toArray, List.getElem_cons_succ, List.getElem_cons_zero])
            (try simp only [Act.put, List.setIfInBounds_toArray, List.set_cons_zero, List.set_cons_succ])
            refine wpTill_pure (i := 3) (v := ?_) rfl (by kernel_rfl) (by kernel_rfl) (by kernel_rfl) (by kernel_rfl) (fun _ _ _ h => h) (Or.inl ⟨by rfl, ?_⟩) (fun _ => hC0) ?_
            rotate_left
            · intro w hSw; clear hSw; go_simp; (try with_reducible rfl)
            (try simp only [List.getElem_toArray, List.getElem_cons_succ, List.getElem_cons_zero])
            (try simp only [Act.put, List.setIfInBounds_toArray, List.set_cons_zero, List.set_cons_succ])
            refine wpTill_pure (i := 4) (v := ?_) rfl (by kernel_rfl) (by kernel_rfl) (by kernel_rfl) (by kernel_rfl) (fun _ _ _ h => h) (Or.inl ⟨by rfl, ?_⟩) (fun _ => hC0) ?_
            rotate_left
            · intro w hSw; clear hSw; go_simp; (try with_reducible rfl)
            (try simp only [List.getElem_toArray, List.getElem_cons_succ, List.getElem_cons_zero])
            (try simp only [Act.put, List.setIfInBounds_toArray, List.set_cons_zero, List.set_cons_succ])
            refine wpTill_deep (i := 5) (v := ?_) [15, 16, 17] rfl (by kernel_rfl) (by kernel_rfl) (by kernel_rfl) (by kernel_rfl) (by kernel_rfl) (by kernel_rfl) (by kernel_rfl) (fun _ _ _ h => h) (Or.inl ⟨by rfl, ?_⟩) hC0 ?_
            rotate_left
            · intro w hSw; (try dsimp only at hSw); obtain ⟨z0, z1, z2⟩ := hSw; go_simp; (try with_reducible rfl)
            (try simp only [List.getElem_toArray, List.getElem_cons_succ, List.getElem_cons_zero])
            (try simp only [Act.put, List.setIfInBounds_toArray, List.set_cons_zero, List.set_cons_succ])
            refine wpTill_pure (i := 6) (v := ?_) rfl (by kernel_rfl) (by kernel_rfl) (by kernel_rfl) (by kernel_rfl) (fun _ _ _ h => h) (Or.inl ⟨by rfl, ?_⟩) (fun _ => hC0) ?_
            rotate_left
            · intro w hSw; clear hSw; go_simp; (try with_reducible rfl)
            (try simp only [List.getElem_toArray, List.getElem_cons_succ, List.getElem_cons_zero])
            (try simp only [Act.put, List.setIfInBounds_toArray, List.set_cons_zero, List.set_cons_succ])
            refine wpTill_pure (i := 7) (v := ?_) rfl (by kernel_rfl) (by kernel_rfl) (by kernel_rfl) (by kernel_rfl) (fun _ _ _ h => h) (Or.inl ⟨by rfl, ?_⟩) (fun _ => hC0) ?_
            rotate_left
            · intro w hSw; clear hSw; go_simp; (try with_reducible rfl)
            (try simp only [List.getElem_toArray, List.getElem_cons_succ, List.getElem_cons_zero])
            (try simp only [Act.put, List.setIfInBounds_toArray, List.set_cons_zero, List.set_cons_succ])
            refine wpTill_pure (i := 8) (v := ?_) rfl (by kernel_rfl) (by kernel_rfl) (by kernel_rfl) (by kernel_rfl) (fun _ _ _ h => h) (Or.inl ⟨by rfl, ?_⟩) (fun _ => hC0) ?_
            rotate_left
            · intro w hSw; clear hSw; go_simp; (try with_reducible rfl)
            (try simp only [List.getElem_toArray, List.getElem_cons_succ, List.getElem_cons_zero])
            (try simp only [Act.put, List.setIfInBounds_toArray, List.set_cons_zero, List.set_cons_succ])
            refine wpTill_deep (i := 9) (v := ?_) [14, 15, 16, 17] rfl (by kernel_rfl) (by kernel_rfl) (by kernel_rfl) (by kernel_rfl) (by kernel_rfl) (by kernel_rfl) (by kernel_rfl) (fun _ _ _ h => h) (Or.inl ⟨by rfl, ?_⟩) hC0 ?_
            rotate_left
            · intro w hSw; (try dsimp only at hSw); obtain ⟨z0, z1, z2⟩ := hSw; go_simp; (try with_reducible rfl)
            (try simp only [List.getElem_toArray, List.getElem_cons_succ, List.getElem_cons_zero])
            (try simp only [Act.put, List.setIfInBounds_toArray, List.set_cons_zero, List.set_cons_succ])
            refine wpTill_pure (i := 10) (v := ?_) rfl (by kernel_rfl) (by kernel_rfl) (by kernel_rfl) (by kernel_rfl) (fun _ _ _ h => h) (Or.inl ⟨by rfl, ?_⟩) (fun _ => hC0) ?_
            rotate_left
            · intro w hSw; clear hSw; go_simp; (try with_reducible rfl)
            (try simp only [List.getElem_toArray, List.getElem_cons_succ, List.getElem_cons_zero])
            (try simp only [Act.put, List.setIfInBounds_toArray, List.set_cons_zero, List.set_cons_succ])
            refine wpTill_pure (i := 11) (v := ?_) rfl (by kernel_rfl) (by kernel_rfl) (by kernel_rfl) (by kernel_rfl) (fun _ _ _ h => h) (Or.inl ⟨by rfl, ?_⟩) (fun _ => hC0) ?_
            rotate_left
            · intro w hSw; clear hSw; go_simp; (try with_reducible rfl)
            (try simp only [List.getElem_toArray, List.getElem_cons_succ, List.getElem_cons_zero])
            (try simp only [Act.put, List.setIfInBounds_toArray, List.set_cons_zero, List.set_cons_succ])
            refine wpTill_pure (i := 12) (v := ?_) rfl (by kernel_rfl) (by kernel_rfl) (by kernel_rfl) (by kernel_rfl) (fun _ _ _ h => h) (Or.inl ⟨by rfl, ?_⟩) (fun _ => hC0) ?_
            rotate_left
            · intro w hSw; clear hSw; go_simp; (try with_reducible rfl)
            (try simp only [List.getElem_toArray, List.getElem_cons_succ, List.getElem_cons_zero])
            (try simp only [Act.put, List.setIfInBounds_toArray, List.set_cons_zero, List.set_cons_succ])
            refine wpTill_deep (i := 13) (v := ?_) [14, 15, 16, 17] rfl (by kernel_rfl) (by kernel_rfl) (by kernel_rfl) (by kernel_rfl) (by kernel_rfl) (by kernel_rfl) (by kernel_rfl) (fun _ _ _ h => h) (Or.inl ⟨by rfl, ?_⟩) hC0 ?_
            rotate_left
            · intro w hSw; (try dsimp only at hSw); obtain ⟨z0, z1, z2⟩ := hSw; go_simp; (try with_reducible rfl)
            (try simp only [List.getElem_toArray, List.getElem_cons_succ, List.getElem_cons_zero])
            (try simp only [Act.put, List.setIfInBounds_toArray, List.set_cons_zero, List.set_cons_succ])
            refine wpTill_one (k := 14) (by kernel_rfl) rfl (fun K hK => ?_)
            (try simp only [List.getElem_toArray, List.getElem_cons_succ, List.getElem_cons_zero])
            go_simp
            refine (unhide HMU _ bd0).mono ?_
            rintro e x1 ⟨b1, rfl, -, hr1, hb1⟩
            have cc_1 := bstep bd0 hb1
            have hC_1 : (fun w' : World => w'.cell? ⟨g, s, none⟩ = some (.pointer (some ⟨xs, 0, none⟩)) ∧ w'.cell? ⟨ba, oa + x, none⟩ = some (.pointer (some ⟨xa, 0, none⟩)) ∧ w'.cell? ⟨bb, ob + y, none⟩ = some (.pointer (some ⟨xb, 0, none⟩))) x1 := unhide HCC _ cc_1
            refine hK.out _ _ (fun _ => hC_1) ?_
            clear hK K
            (try simp only [Act.put, List.setIfInBounds_toArray, List.set_cons_zero, List.set_cons_succ])
            refine wpTill_one (k := 15) (by kernel_rfl) rfl (fun K hK => ?_)
            (try simp only [List.getElem_toArray, List.getElem_cons_succ, List.getElem_cons_zero])
            go_simp
            refine (unhide HAD x1 b1 cc_1 hr1).mono ?_
            rintro e x2 ⟨b2, rfl, -, hr2, hb2⟩
            have cc_2 := bstep cc_1 hb2
            have hC_2 : (fun w' : World => w'.cell? ⟨g, s, none⟩ = some (.pointer (some ⟨xs, 0, none⟩)) ∧ w'.cell? ⟨ba, oa + x, none⟩ = some (.pointer (some ⟨xa, 0, none⟩)) ∧ w'.cell? ⟨bb, ob + y, none⟩ = some (.pointer (some ⟨xb, 0, none⟩))) x2 := unhide HCC _ cc_2
            have ⟨S1, S2⟩ := ((unhide HOT).keep cc_2).set (unhide HSK) (q := cv A B n s (x + 1)) hr2 (Nat.le_refl _) (by simp)
            have ⟨kc, kf⟩ := ((unhide HOT).keep cc_2).cell (unhide HSK)
            have HS1 := hide S1
            have HS2 := hide S2
            clear S1 S2
            refine hK.out _ _ (fun _ => hC_2) ?_
            clear hK K
            (try simp only [Act.put, List.setIfInBounds_toArray, List.set_cons_zero, List.set_cons_succ])
            refine wpTill_pure (i := 16) (v := ?_) rfl (by kernel_rfl) (by kernel_rfl) (by kernel_rfl) (by kernel_rfl) (fun _ _ _ h => h) (Or.inl ⟨by rfl, ?_⟩) (fun _ => hC_2) ?_
            rotate_left
            · intro w hSw; clear hSw; go_simp; (try with_reducible rfl)
            (try simp only [List.getElem_toArray, List.getElem_cons_succ, List.getElem_cons_zero])
            (try simp only [Act.put, List.setIfInBounds_toArray, List.set_cons_zero, List.set_cons_succ])
            refine wpTill_one (k := 17) (by kernel_rfl) rfl (fun K hK => ?_)
            (try simp only [List.getElem_toArray, List.getElem_cons_succ, List.getElem_cons_zero])
            go_simp
            refine hK.out _ _ (fun h => absurd (h.symm.trans (by kernel_rfl)) Bool.false_ne_true) ?_
            clear hK K
            (try simp only [Act.put, List.setIfInBounds_toArray, List.set_cons_zero, List.set_cons_succ])
            refine wpTill_done (by kernel_rfl) ?_ _
            have hb8 : Below w2.heap.size w2 (x2.setCell ⟨g, s, none⟩ (.pointer (some ⟨b2, 0, none⟩))) := (bstep (unhide HBX) cc_2).setCell (p := ⟨g, s, none⟩) (Nat.le_of_eq (unhide HGG)) _
            obtain ⟨W8, hW8⟩ : ∃ W, x2.setCell ⟨g, s, none⟩ (.pointer (some ⟨b2, 0, none⟩)) = W := ⟨_, rfl⟩
            rw [hW8] at HS1 HS2 hb8
            have HN1 : Hid (OutAt w W8 g K (os2.set s (some b2)) (fun s => cv A B n s m) s) := ⟨(unhide HS1).row, (unhide HS1).len, fun j hj => by
              obtain ⟨z, e1, e2⟩ := (unhide HS1).rat j hj
              refine ⟨z, e1, ?_⟩
              simp [show j ≠ s by omega] at e2
              exact e2, (unhide HS1).bl, (unhide HS1).gl⟩
            have HN2 : Hid (BRz W8 b2 0 (cv A B n s (x + 1))) := by
              have h := unhide HS2
              simp at h
              exact h
            have HN3 : Hid ((os2.set s (some b2))[s]! = some b2) := by show _ = _; have := unhide HLN; have := unhide HSK; simp [show s < os2.length by omega]
            have HB8 := hide hb8
            clear hr1 hb1 cc_1 hC_1 hr2 hb2 cc_2 hC_2 bd0 hC0 hb8 HS1 HS2 kc kf HMU HAD HCC
            go_wp2_with fail
            exact ⟨⟨x + 1, b2, _, by go_num, hxm, unhide HN1, unhide HN3, unhide HN2, unhide HB8⟩, by simp [intOf]; omega⟩
          · have ecv : cv A B n s (x + 1) = cv A B n s x := by rw [cv, if_neg hc, Rat.add_zero]
            have HRX : Hid (BRz wv xs 0 (cv A B n s (x + 1))) := by show BRz _ _ _ _; rw [ecv]; exact hrx
            have HT := hide T
            have HXS := hide hxs
            have HBX := hide hbx
            by_cases hc1 : x ≤ s
            · have g6 : (0 : Int) ≤ (s : Int) - (x : Int) := by omega
              have g7 : ¬ (s : Int) - (x : Int) < (n : Int) := by omega
              clear T hrx hbx ecv hc hM hsK hxs hc1 hx
              go_wp2_with fail
              exact ⟨⟨x + 1, xs, os2, by go_num, hxm, unhide HT, unhide HXS, unhide HRX, unhide HBX⟩, by simp [intOf]; omega⟩
            · have g6 : ¬ (0 : Int) ≤ (s : Int) - (x : Int) := by omega
              have g6' : (s : Int) - (x : Int) < 0 := by omega
              clear T hrx hbx ecv hc hM hsK hxs hc1 hx
              go_wp2_with fail
              exact ⟨⟨x + 1, xs, os2, by go_num, hxm, unhide HT, unhide HXS, unhide HRX, unhide HBX⟩, by simp [intOf]; omega⟩
        · obtain rfl : x = m := by omega
          have HT : Hid (OutAt w wv g K os2 (fun s => cv A B n s x) (s + 1)) := ⟨T.row, T.len, fun j hj => by
            by_cases e : j = s
            · subst e; exact ⟨xs, hxs, hrx⟩
            · exact T.rat j (by omega), T.bl, T.gl⟩
          have HBX := hide hbx
          clear T hrx hbx hM hsK hxs hx
          go_wp2_with fail
          (try simp only [Exit.inBlock, Exit.then])
          (try go_wp2_with fail)
          exact ⟨⟨s + 1, os2, by go_num, hlt, unhide HT, unhide HBX⟩, by simp [intOf]; omega⟩
    · obtain rfl : s = K := by omega
      have HL := hide (T.list (qs := conv A B n s m) (convK_len A B n s m) (by omega) (fun j hj => (conv_get A B n s m (by omega) j hj).symm))
      have HBT := hide T.bl
      clear T hbw hM hs
      go_wp2
      (try simp only [Exit.inBlock, Exit.then])
      (try go_wp2)
      go_ret
      exact ⟨_, rfl, unhide HL, unhide HBT⟩
end Go.Proofs.YtnmmfcoclpapdaaGreatDoor
