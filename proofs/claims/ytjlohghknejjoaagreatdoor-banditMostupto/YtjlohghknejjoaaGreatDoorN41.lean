/- Equations: the numbers from the last on. -/
import Derived.Test.YtjlohghknejjoaaGreatDoorN4
namespace Go.Proofs.YtjlohghknejjoaaGreatDoor
open Go.RowKit Go.Sort Go.Shelf

/-- How great the numbers from the last on may be. -/
def xb (S : Nat) : Nat → Nat
  | 0 => 1
  | m + 1 => xb S m + S + m * (S + xb S m + 1) + S
theorem xb_le (S : Nat) : ∀ {a b : Nat}, a ≤ b → xb S a ≤ xb S b
  | a, 0, h => by obtain rfl : a = 0 := by omega
                  exact Nat.le_refl _
  | a, b + 1, h => by
    by_cases e : a = b + 1
    · rw [e]; exact Nat.le_refl _
    · have := xb_le S (a := a) (b := b) (by omega)
      have e2 : xb S (b + 1) = xb S b + S + b * (S + xb S b + 1) + S := rfl
      omega
theorem rst_RS {L : Nat → Nat → Rat} {x : Nat → Rat} {n k S X : Nat} (hL : ∀ a b, a < n → b ≤ n → RS (L a b) S) (hk : k < n) (hx : ∀ j, k < j → j < n → RS (x j) X) : ∀ c, k + 1 + c ≤ n → RS (Lin.rst L x n k c) (S + c * (S + X + 1))
  | 0, _ => by
    have := hL k n hk (Nat.le_refl n)
    exact this.mono (by omega)
  | c + 1, h => by
    have a := rst_RS hL hk hx c (by omega)
    have b := (hL k (k + 1 + c) hk (by omega)).mul (hx (k + 1 + c) (by omega) (by omega))
    refine RS.mono (a.sub' b) ?_
    rw [Nat.succ_mul]
    omega
theorem bk_RS {L : Nat → Nat → Rat} {n S : Nat} (hL : ∀ a b, a < n → b ≤ n → RS (L a b) S) (hz : ∀ i, i < n → L i i ≠ 0) : ∀ m, m ≤ n → ∀ i, RS (Lin.bk L n m i) (xb S m)
  | 0, _, i => RS.zero
  | m + 1, hm, i => by
    have ih := bk_RS hL hz m (by omega)
    have e2 : xb S (m + 1) = xb S m + S + m * (S + xb S m + 1) + S := rfl
    show RS (if i = n - 1 - m then _ else Lin.bk L n m i) _
    by_cases e : i = n - 1 - m
    · rw [if_pos e]
      have r := rst_RS hL (k := n - 1 - m) (by omega) (fun j _ _ => ih j) m (by omega)
      refine RS.mono (r.div' (hL (n - 1 - m) (n - 1 - m) (by omega) (by omega)) (fun x => hz (n - 1 - m) (by omega) (Rat.num_eq_zero.1 x))) ?_
      omega
    · rw [if_neg e]
      exact (ih i).mono (by omega)

theorem bk_set (L : Nat → Nat → Rat) (n m k : Nat) (hk : n - 1 - m = k) (_hm : m < n) : (row (Lin.bk L n m) n).set k (Lin.bk L n (m + 1) k) = row (Lin.bk L n (m + 1)) n := by
  refine row_eq (by rw [List.length_set, row_length]) (fun i hi => ?_)
  by_cases e : k = i
  · subst e
    simp [row_length, hi]
  · have e2 : ((row (Lin.bk L n m) n).set k (Lin.bk L n (m + 1) k))[i]! = (row (Lin.bk L n m) n)[i]! := by simp [e]
    rw [e2, row_get hi]
    show _ = (if i = n - 1 - m then _ else _)
    rw [if_neg (by omega)]
/-- A row of the call's own, where a box is written. -/
theorem SumsAt.boxed {w wr : World} {g b : Nat} {us : List Tri} {qs : List Rat} {t : Tri} {q : Rat} (h : SumsAt w wr g us qs) (hx : BoxIs wr b t q) (hne : b ≠ g) (hge : w.heap.size ≤ b) (x0 x1 x2 : Value) :
    SumsAt w (((wr.setCell ⟨b, 0, none⟩ x0).setCell ⟨b, 1, none⟩ x1).setCell ⟨b, 2, none⟩ x2) g us qs :=
  ⟨by rw [Below.heap_setCell _ _ _ _ (Ne.symm hne), Below.heap_setCell _ _ _ _ (Ne.symm hne), Below.heap_setCell _ _ _ _ (Ne.symm hne)]; exact h.row, h.len, fun j hj => (h.rat j hj).rowed (us := [t]) hx.1 _ _ _ _ _ _, ((h.bl.setCell hge _).setCell hge _).setCell hge _, h.gl⟩
/-- What back says. -/
def BackPost (w : World) (n : Nat) (x : Nat → Rat) (e : Ending) (w' : World) : Prop := ∃ v, e = .returned v ∧ LawIs w' v (row x n) ∧ Below w.heap.size w w'

set_option maxHeartbeats 8000000 in
set_option maxRecDepth 100000 in
set_option linter.unusedSimpArgs false in
theorem back_any (w w1 : World) (G n : Nat) (S : Nat) (bs : Nat → Nat) (uss : Nat → List Tri) (L : Nat → Nat → Rat) (h : MatAt w w1 G n n (n + 1) bs uss L) (hn2 : n ≤ 100) (hz : ∀ i, i < n → L i i ≠ 0) (hL : ∀ a b, a < n → b ≤ n → RS (L a b) S) (hX : 2 * xb S n + 2 * S + 1 ≤ KK) :
    Calls Tryz.prog 103 #[.slice (some ⟨G, 0, none⟩) n n] w1 (BackPost w1 n (Lin.bk L n n)) := by
  have HM := hide h
  have HL := hide hL
  have HZ := hide hz
  have qmk := make_ratios (n : Int) (by omega) (by omega) w1
  rw [Int.toNat_natCast] at qmk
  have S0 := SumsAt.start w1 w1 n (Below.refl _ _)
  have er : List.replicate n (0 : Rat) = row (Lin.bk L n 0) n := row_eq (by simp) (fun i hi => by simp [hi, Lin.bk])
  rw [er] at S0
  obtain ⟨W0, hW0⟩ : ∃ W, w1.alloc (.cells (tcells (List.replicate n zTri)).toArray 37) = W := ⟨_, rfl⟩
  obtain ⟨Go, hGo⟩ : ∃ G, w1.heap.size = G := ⟨_, rfl⟩
  rw [hW0, hGo] at qmk S0
  have HS0 := hide S0
  clear S0 hW0 hGo er h hL hz
  go_enter Tryz.func103, Tryz.ntmps103
  go_wp2_with fail
  clear qmk
  go_loopw [5] (fun vi wr => ∃ (m : Nat) (us : List Tri), vi = .int .i64 ((n : Int) - 1 - m) ∧ m ≤ n ∧ SumsAt w1 wr Go us (row (Lin.bk L n m) n)) (fun vi _ => (intOf vi + 1).toNat)
  case atStart => exact ⟨0, _, by go_num, Nat.zero_le _, unhide HS0⟩
  case round =>
    obtain ⟨m, us, rfl, hm, hS⟩ := hrel
    clear HS0
    have HS := hide hS
    by_cases hlt : m < n
    · obtain ⟨k, hk⟩ : ∃ k : Nat, n - 1 - m = k := ⟨_, rfl⟩
      have ek : (n : Int) - 1 - m = (k : Int) := by omega
      rw [ek]
      have hM := (unhide HM).keep hS.bl
      have HM1 := hide hM
      have kh := hM.head (i := k) (by omega) (by omega)
      have ⟨⟨c0, c1, c2⟩, _⟩ := hM.cells (i := k) (j := n) (by omega) (by omega)
      have ra := hM.rat k n (by omega) (by omega)
      obtain ⟨ta, hta⟩ : ∃ t, (uss k)[n]! = t := ⟨_, rfl⟩
      rw [hta] at c0 c1 c2 ra
      obtain ⟨bk, hbk⟩ : ∃ b, bs k = b := ⟨_, rfl⟩
      rw [hbk] at kh c0 c1 c2
      have HBK := hide hbk
      have X0 := BoxIs.new (t := ta) ra
      have bA := alloc_below wr (.cells #[.bool ta.s, .slice ta.a1 ta.n1 ta.c1, .slice ta.a2 ta.n2 ta.c2] 37)
      have HBA := hide bA
      have HS1 := hide (hS.keep bA)
      obtain ⟨W2, hW2⟩ : ∃ W, wr.alloc (.cells #[.bool ta.s, .slice ta.a1 ta.n1 ta.c1, .slice ta.a2 ta.n2 ta.c2] 37) = W := ⟨_, rfl⟩
      obtain ⟨bx, hbx⟩ : ∃ g, wr.heap.size = g := ⟨_, rfl⟩
      have hlG : Go < wr.heap.size := (Array.getElem?_eq_some_iff.1 hS.row).1
      rw [hW2] at X0 HS1 HBA
      rw [hbx] at X0 hlG
      have HX0 := hide X0
      have HNE : Hid (bx ≠ Go) := by show _ ≠ _; omega
      have HGE : Hid (w1.heap.size ≤ bx) := by show _ ≤ _; rw [← hbx]; exact hS.bl.size
      have e0 : (0 : Int) ≤ (k : Int) := by omega
      have e1 : (k : Int) < (n : Int) := by omega
      have e2 : (n : Int) < (n : Int) + 1 := by omega
      have e3 : (0 : Int) ≤ (n : Int) := by omega
      clear hM ra hta hbk bA X0 hS hlG
      go_wp2_with fail
      clear hW2 hbx kh c0 c1 c2
      go_loopw [7] (fun vi wr => ∃ (c i : Nat) (t : Tri), vi = .int .i64 (i : Int) ∧ i = k + 1 + c ∧ i ≤ n ∧ SumsAt w1 wr Go us (row (Lin.bk L n m) n) ∧ BoxIs wr bx t (Lin.rst L (Lin.bk L n m) n k c)) (fun vi _ => n - (intOf vi).toNat)
      case atStart => exact ⟨0, k + 1, ta, by go_num, rfl, by omega, unhide HS1, unhide HX0⟩
      case round =>
        obtain ⟨c, i, t, rfl, hic, hin, hS, hX⟩ := hrel
        clear HS1 HX0 HS HBA HM1
        have HS := hide hS
        have HX := hide hX
        have hul : us.length = n := by rw [hS.len, row_length]
        have hM := (unhide HM).keep hS.bl
        have hGl := hM.ltG
        have kh := hM.head (i := k) (by omega) (by omega)
        have hkl := hM.lt (i := k) (by omega)
        rw [unhide HBK] at kh hkl
        by_cases hlt2 : i < n
        · have ⟨⟨c0, c1, c2⟩, _⟩ := hM.cells (i := k) (j := i) (by omega) (by omega)
          have ra := hM.rat k i (by omega) (by omega)
          obtain ⟨tl, htl⟩ : ∃ t, (uss k)[i]! = t := ⟨_, rfl⟩
          rw [htl, unhide HBK] at c0 c1 c2
          rw [htl] at ra
          have ⟨⟨d0, d1, d2⟩, _⟩ := hS.cells i (by omega)
          have rb := hS.rat i (by omega)
          rw [row_get hlt2] at rb
          obtain ⟨tx, htx⟩ : ∃ t, us[i]! = t := ⟨_, rfl⟩
          rw [htx] at d0 d1 d2 rb
          have hOl : Go < wr.heap.size := (Array.getElem?_eq_some_iff.1 hS.row).1
          have HCC : Hid (∀ W, Below wr.heap.size wr W → (fun w' : World => (w'.cell? ⟨bx, 0, none⟩ = some (.bool t.s) ∧ w'.cell? ⟨bx, 1, none⟩ = some (.slice t.a1 t.n1 t.c1) ∧ w'.cell? ⟨bx, 2, none⟩ = some (.slice t.a2 t.n2 t.c2)) ∧ w'.cell? ⟨G, k, none⟩ = some (.slice (some ⟨bk, 0, none⟩) (n + 1) (n + 1)) ∧ (w'.cell? ⟨bk, i * 3, none⟩ = some (.bool tl.s) ∧ w'.cell? ⟨bk, i * 3 + 1, none⟩ = some (.slice tl.a1 tl.n1 tl.c1) ∧ w'.cell? ⟨bk, i * 3 + 2, none⟩ = some (.slice tl.a2 tl.n2 tl.c2)) ∧ (w'.cell? ⟨Go, i * 3, none⟩ = some (.bool tx.s) ∧ w'.cell? ⟨Go, i * 3 + 1, none⟩ = some (.slice tx.a1 tx.n1 tx.c1) ∧ w'.cell? ⟨Go, i * 3 + 2, none⟩ = some (.slice tx.a2 tx.n2 tx.c2))) W) := fun W hW => by
            refine ⟨(unhide HX).cells W hW, by rw [hW.cell (p := ⟨G, k, none⟩) hGl]; exact kh, ?_, ?_⟩
            · rw [hW.cell (p := ⟨bk, i * 3, none⟩) hkl, hW.cell (p := ⟨bk, i * 3 + 1, none⟩) hkl, hW.cell (p := ⟨bk, i * 3 + 2, none⟩) hkl]; exact ⟨c0, c1, c2⟩
            · rw [hW.cell (p := ⟨Go, i * 3, none⟩) hOl, hW.cell (p := ⟨Go, i * 3 + 1, none⟩) hOl, hW.cell (p := ⟨Go, i * 3 + 2, none⟩) hOl]; exact ⟨d0, d1, d2⟩
          have HMU : Hid (∀ W, Below wr.heap.size wr W → Calls Tryz.prog 28 #[.agg #[.bool tl.s, .slice tl.a1 tl.n1 tl.c1, .slice tl.a2 tl.n2 tl.c2], .agg #[.bool tx.s, .slice tx.a1 tx.n1 tx.c1, .slice tx.a2 tx.n2 tx.c2]] W fun e w' => ∃ v, e = .returned v ∧ RatIs w' v (L k i * Lin.bk L n m i) ∧ Below W.heap.size W w') := fun W hW => mulR_any tl.val tx.val _ _ W (ra.below hW) (rb.below hW) (xb S n + S) ((unhide HL k i (by omega) (by omega)).mono (by omega)) ((bk_RS (unhide HL) (unhide HZ) m hm i).mono (by have := xb_le S hm; omega)) (by omega)
          have hX1 : xb S (m + 1) = xb S m + S + m * (S + xb S m + 1) + S := rfl
          have hX2 := xb_le S (a := m + 1) (b := n) (by omega)
          have hX3 : c * (S + xb S m + 1) ≤ m * (S + xb S m + 1) := Nat.mul_le_mul_right _ (by omega)
          have hX4 : S + xb S m + 1 ≤ m * (S + xb S m + 1) := Nat.le_mul_of_pos_left _ (by omega)
          have HSU : Hid (∀ W v, Below wr.heap.size wr W → RatIs W v (L k i * Lin.bk L n m i) → Calls Tryz.prog 29 #[.agg #[.bool t.s, .slice t.a1 t.n1 t.c1, .slice t.a2 t.n2 t.c2], v] W fun e w' => ∃ v, e = .returned v ∧ RatIs w' v (Lin.rst L (Lin.bk L n m) n k (c + 1)) ∧ Below W.heap.size W w') := fun W v hW hv => by
            have := subR_any t.val v _ _ W ((unhide HX).2.below hW) hv (xb S n + S) ((rst_RS (unhide HL) (by omega) (fun j _ _ => bk_RS (unhide HL) (unhide HZ) m hm j) c (by omega)).mono (by omega)) (((unhide HL k i (by omega) (by omega)).mul (bk_RS (unhide HL) (unhide HZ) m hm i)).mono (by omega)) (by omega)
            show Calls _ _ _ _ fun e w' => ∃ v, _ ∧ RatIs w' v (Lin.rst L (Lin.bk L n m) n k c - L k (k + 1 + c) * Lin.bk L n m (k + 1 + c)) ∧ _
            rw [← hic]
            exact this
          have e1 : (i : Int) < (n : Int) := by omega
          have e0 : (0 : Int) ≤ (i : Int) := by omega
          have e2 : (i : Int) < (n : Int) + 1 := by omega
          have e3 : (0 : Int) ≤ (k : Int) := by omega
          have e4 : (k : Int) < (n : Int) := by omega
          have HIC := hide hic
          clear hS hX hM ra rb htl htx c0 c1 c2 d0 d1 d2 hGl kh hkl hOl hX1 hX2 hX3 hX4 hic
          go_wp2_with fail
          refine wp_region_till (fun w' : World => (w'.cell? ⟨bx, 0, none⟩ = some (.bool t.s) ∧ w'.cell? ⟨bx, 1, none⟩ = some (.slice t.a1 t.n1 t.c1) ∧ w'.cell? ⟨bx, 2, none⟩ = some (.slice t.a2 t.n2 t.c2)) ∧ w'.cell? ⟨G, k, none⟩ = some (.slice (some ⟨bk, 0, none⟩) (n + 1) (n + 1)) ∧ (w'.cell? ⟨bk, i * 3, none⟩ = some (.bool tl.s) ∧ w'.cell? ⟨bk, i * 3 + 1, none⟩ = some (.slice tl.a1 tl.n1 tl.c1) ∧ w'.cell? ⟨bk, i * 3 + 2, none⟩ = some (.slice tl.a2 tl.n2 tl.c2)) ∧ (w'.cell? ⟨Go, i * 3, none⟩ = some (.bool tx.s) ∧ w'.cell? ⟨Go, i * 3 + 1, none⟩ = some (.slice tx.a1 tx.n1 tx.c1) ∧ w'.cell? ⟨Go, i * 3 + 2, none⟩ = some (.slice tx.a2 tx.n2 tx.c2))) 14 (by kernel_rfl) ?_
          have bd0 : Below wr.heap.size wr wr.drew := (Below.refl _ _).drew
          have hC0 : (fun w' : World => (w'.cell? ⟨bx, 0, none⟩ = some (.bool t.s) ∧ w'.cell? ⟨bx, 1, none⟩ = some (.slice t.a1 t.n1 t.c1) ∧ w'.cell? ⟨bx, 2, none⟩ = some (.slice t.a2 t.n2 t.c2)) ∧ w'.cell? ⟨G, k, none⟩ = some (.slice (some ⟨bk, 0, none⟩) (n + 1) (n + 1)) ∧ (w'.cell? ⟨bk, i * 3, none⟩ = some (.bool tl.s) ∧ w'.cell? ⟨bk, i * 3 + 1, none⟩ = some (.slice tl.a1 tl.n1 tl.c1) ∧ w'.cell? ⟨bk, i * 3 + 2, none⟩ = some (.slice tl.a2 tl.n2 tl.c2)) ∧ (w'.cell? ⟨Go, i * 3, none⟩ = some (.bool tx.s) ∧ w'.cell? ⟨Go, i * 3 + 1, none⟩ = some (.slice tx.a1 tx.n1 tx.c1) ∧ w'.cell? ⟨Go, i * 3 + 2, none⟩ = some (.slice tx.a2 tx.n2 tx.c2))) wr.drew := unhide HCC _ bd0
          refine wpTill_take (i := 0) (v := ?_) rfl (by kernel_rfl) (by kernel_rfl) (by kernel_rfl) (by kernel_rfl) (by kernel_rfl) (by kernel_rfl) (fun _ _ _ h => h) (Or.inl ⟨by rfl, ?_⟩) hC0 ?_
          rotate_left
          · intro w hSw; (try dsimp only at hSw); obtain ⟨⟨z0, z1, z2⟩, z3, ⟨z4, z5, z6⟩, z7, z8, z9⟩ := hSw; go_simp; (try with_reducible rfl)
          (try simp only [List.getElem_toArray, List.getElem_cons_succ, List.getElem_cons_zero])
          (try simp only [Act.put, List.setIfInBounds_toArray, List.set_cons_zero, List.set_cons_succ])
          refine wpTill_pure (i := 1) (v := ?_) rfl (by kernel_rfl) (by kernel_rfl) (by kernel_rfl) (by kernel_rfl) (fun _ _ _ h => h) (Or.inl ⟨by rfl, ?_⟩) (fun _ => hC0) ?_
          rotate_left
          · intro w hSw; clear hSw; go_simp; (try with_reducible rfl)
          (try simp only [List.getElem_toArray, List.getElem_cons_succ, List.getElem_cons_zero])
          (try simp only [Act.put, List.setIfInBounds_toArray, List.set_cons_zero, List.set_cons_succ])
          refine wpTill_pure (i := 2) (v := ?_) rfl (by kernel_rfl) (by kernel_rfl) (by kernel_rfl) (by kernel_rfl) (fun _ _ _ h => h) (Or.inl ⟨by rfl, ?_⟩) (fun _ => hC0) ?_
          rotate_left
          · intro w hSw; clear hSw; go_simp; (try with_reducible rfl)
          (try simp only [List.getElem_toArray, List.getElem_cons_succ, List.getElem_cons_zero])
          (try simp only [Act.put, List.setIfInBounds_toArray, List.set_cons_zero, List.set_cons_succ])
          refine wpTill_pure (i := 3) (v := ?_) rfl (by kernel_rfl) (by kernel_rfl) (by kernel_rfl) (by kernel_rfl) (fun _ _ _ h => h) (Or.inl ⟨by rfl, ?_⟩) (fun _ => hC0) ?_
          rotate_left
          · intro w hSw; clear hSw; go_simp; (try with_reducible rfl)
          (try simp only [List.getElem_toArray, List.getElem_cons_succ, List.getElem_cons_zero])
          (try simp only [Act.put, List.setIfInBounds_toArray, List.set_cons_zero, List.set_cons_succ])
          refine wpTill_take (i := 4) (v := ?_) rfl (by kernel_rfl) (by kernel_rfl) (by kernel_rfl) (by kernel_rfl) (by kernel_rfl) (by kernel_rfl) (fun _ _ _ h => h) (Or.inl ⟨by rfl, ?_⟩) hC0 ?_
          rotate_left
          · intro w hSw; (try dsimp only at hSw); obtain ⟨⟨z0, z1, z2⟩, z3, ⟨z4, z5, z6⟩, z7, z8, z9⟩ := hSw; go_simp; (try with_reducible rfl)
          (try simp only [List.getElem_toArray, List.getElem_cons_succ, List.getElem_cons_zero])
          (try simp only [Act.put, List.setIfInBounds_toArray, List.set_cons_zero, List.set_cons_succ])
          refine wpTill_pure (i := 5) (v := ?_) rfl (by kernel_rfl) (by kernel_rfl) (by kernel_rfl) (by kernel_rfl) (fun _ _ _ h => h) (Or.inl ⟨by rfl, ?_⟩) (fun _ => hC0) ?_
          rotate_left
          · intro w hSw; clear hSw; go_simp; (try with_reducible rfl)
          (try simp only [List.getElem_toArray, List.getElem_cons_succ, List.getElem_cons_zero])
          (try simp only [Act.put, List.setIfInBounds_toArray, List.set_cons_zero, List.set_cons_succ])
          refine wpTill_pure (i := 6) (v := ?_) rfl (by kernel_rfl) (by kernel_rfl) (by kernel_rfl) (by kernel_rfl) (fun _ _ _ h => h) (Or.inl ⟨by rfl, ?_⟩) (fun _ => hC0) ?_
          rotate_left
          · intro w hSw; clear hSw; go_simp; (try with_reducible rfl)
          (try simp only [List.getElem_toArray, List.getElem_cons_succ, List.getElem_cons_zero])
          (try simp only [Act.put, List.setIfInBounds_toArray, List.set_cons_zero, List.set_cons_succ])
          refine wpTill_take (i := 7) (v := ?_) rfl (by kernel_rfl) (by kernel_rfl) (by kernel_rfl) (by kernel_rfl) (by kernel_rfl) (by kernel_rfl) (fun _ _ _ h => h) (Or.inl ⟨by rfl, ?_⟩) hC0 ?_
          rotate_left
          · intro w hSw; (try dsimp only at hSw); obtain ⟨⟨z0, z1, z2⟩, z3, ⟨z4, z5, z6⟩, z7, z8, z9⟩ := hSw; go_simp; (try with_reducible rfl)
          (try simp only [List.getElem_toArray, List.getElem_cons_succ, List.getElem_cons_zero])
          (try simp only [Act.put, List.setIfInBounds_toArray, List.set_cons_zero, List.set_cons_succ])
          refine wpTill_pure (i := 8) (v := ?_) rfl (by kernel_rfl) (by kernel_rfl) (by kernel_rfl) (by kernel_rfl) (fun _ _ _ h => h) (Or.inl ⟨by rfl, ?_⟩) (fun _ => hC0) ?_
          rotate_left
          · intro w hSw; clear hSw; go_simp; (try with_reducible rfl)
          (try simp only [List.getElem_toArray, List.getElem_cons_succ, List.getElem_cons_zero])
          (try simp only [Act.put, List.setIfInBounds_toArray, List.set_cons_zero, List.set_cons_succ])
          refine wpTill_pure (i := 9) (v := ?_) rfl (by kernel_rfl) (by kernel_rfl) (by kernel_rfl) (by kernel_rfl) (fun _ _ _ h => h) (Or.inl ⟨by rfl, ?_⟩) (fun _ => hC0) ?_
          rotate_left
          · intro w hSw; clear hSw; go_simp; (try with_reducible rfl)
          (try simp only [List.getElem_toArray, List.getElem_cons_succ, List.getElem_cons_zero])
          (try simp only [Act.put, List.setIfInBounds_toArray, List.set_cons_zero, List.set_cons_succ])
          refine wpTill_pure (i := 10) (v := ?_) rfl (by kernel_rfl) (by kernel_rfl) (by kernel_rfl) (by kernel_rfl) (fun _ _ _ h => h) (Or.inl ⟨by rfl, ?_⟩) (fun _ => hC0) ?_
          rotate_left
          · intro w hSw; clear hSw; go_simp; (try with_reducible rfl)
          (try simp only [List.getElem_toArray, List.getElem_cons_succ, List.getElem_cons_zero])
          (try simp only [Act.put, List.setIfInBounds_toArray, List.set_cons_zero, List.set_cons_succ])
          refine wpTill_take (i := 11) (v := ?_) rfl (by kernel_rfl) (by kernel_rfl) (by kernel_rfl) (by kernel_rfl) (by kernel_rfl) (by kernel_rfl) (fun _ _ _ h => h) (Or.inl ⟨by rfl, ?_⟩) hC0 ?_
          rotate_left
          · intro w hSw; (try dsimp only at hSw); obtain ⟨⟨z0, z1, z2⟩, z3, ⟨z4, z5, z6⟩, z7, z8, z9⟩ := hSw; go_simp; (try with_reducible rfl)
          (try simp only [List.getElem_toArray, List.getElem_cons_succ, List.getElem_cons_zero])
          (try simp only [Act.put, List.setIfInBounds_toArray, List.set_cons_zero, List.set_cons_succ])
          refine wpTill_one (k := 12) (by kernel_rfl) rfl (fun K hK => ?_)
          (try simp only [List.getElem_toArray, List.getElem_cons_succ, List.getElem_cons_zero])
          go_simp
          refine (unhide HMU _ bd0).mono ?_
          rintro e xw_1 ⟨xv_1, rfl, hv_1, hb_1⟩
          have cc_1 := below_step bd0 hb_1
          have hC_1 : (fun w' : World => (w'.cell? ⟨bx, 0, none⟩ = some (.bool t.s) ∧ w'.cell? ⟨bx, 1, none⟩ = some (.slice t.a1 t.n1 t.c1) ∧ w'.cell? ⟨bx, 2, none⟩ = some (.slice t.a2 t.n2 t.c2)) ∧ w'.cell? ⟨G, k, none⟩ = some (.slice (some ⟨bk, 0, none⟩) (n + 1) (n + 1)) ∧ (w'.cell? ⟨bk, i * 3, none⟩ = some (.bool tl.s) ∧ w'.cell? ⟨bk, i * 3 + 1, none⟩ = some (.slice tl.a1 tl.n1 tl.c1) ∧ w'.cell? ⟨bk, i * 3 + 2, none⟩ = some (.slice tl.a2 tl.n2 tl.c2)) ∧ (w'.cell? ⟨Go, i * 3, none⟩ = some (.bool tx.s) ∧ w'.cell? ⟨Go, i * 3 + 1, none⟩ = some (.slice tx.a1 tx.n1 tx.c1) ∧ w'.cell? ⟨Go, i * 3 + 2, none⟩ = some (.slice tx.a2 tx.n2 tx.c2))) xw_1 := unhide HCC _ cc_1
          refine hK.out _ _ (fun _ => hC_1) ?_
          clear hK K
          (try simp only [Act.put, List.setIfInBounds_toArray, List.set_cons_zero, List.set_cons_succ])
          refine wpTill_one (k := 13) (by kernel_rfl) rfl (fun K hK => ?_)
          (try simp only [List.getElem_toArray, List.getElem_cons_succ, List.getElem_cons_zero])
          go_simp
          refine (unhide HSU _ _ cc_1 hv_1).mono ?_
          rintro e xw_2 ⟨xv_2, rfl, hv_2, hb_2⟩
          have cc_2 := below_step cc_1 hb_2
          have hC_2 : (fun w' : World => (w'.cell? ⟨bx, 0, none⟩ = some (.bool t.s) ∧ w'.cell? ⟨bx, 1, none⟩ = some (.slice t.a1 t.n1 t.c1) ∧ w'.cell? ⟨bx, 2, none⟩ = some (.slice t.a2 t.n2 t.c2)) ∧ w'.cell? ⟨G, k, none⟩ = some (.slice (some ⟨bk, 0, none⟩) (n + 1) (n + 1)) ∧ (w'.cell? ⟨bk, i * 3, none⟩ = some (.bool tl.s) ∧ w'.cell? ⟨bk, i * 3 + 1, none⟩ = some (.slice tl.a1 tl.n1 tl.c1) ∧ w'.cell? ⟨bk, i * 3 + 2, none⟩ = some (.slice tl.a2 tl.n2 tl.c2)) ∧ (w'.cell? ⟨Go, i * 3, none⟩ = some (.bool tx.s) ∧ w'.cell? ⟨Go, i * 3 + 1, none⟩ = some (.slice tx.a1 tx.n1 tx.c1) ∧ w'.cell? ⟨Go, i * 3 + 2, none⟩ = some (.slice tx.a2 tx.n2 tx.c2))) xw_2 := unhide HCC _ cc_2
          refine hK.out _ _ (fun _ => hC_2) ?_
          clear hK K
          (try simp only [Act.put, List.setIfInBounds_toArray, List.set_cons_zero, List.set_cons_succ])
          obtain ⟨tn, rfl, rn⟩ := tri_of hv_2
          simp only [Tri.val]
          have X8 := (unhide HX).keep cc_2
          have S8 := (unhide HS).keep cc_2
          have ⟨l0, l1, l2⟩ := X8.free
          have ⟨y0, y1, y2⟩ := X8.cells _ (Below.refl _ _)
          have FX := X8.set rn
          have FSt := S8.boxed X8 (unhide HNE) (unhide HGE) (.bool tn.s) (.slice tn.a1 tn.n1 tn.c1) (.slice tn.a2 tn.n2 tn.c2)
          obtain ⟨W9, hW9⟩ : ∃ W, ((xw_2.setCell ⟨bx, 0, none⟩ (.bool tn.s)).setCell ⟨bx, 1, none⟩ (.slice tn.a1 tn.n1 tn.c1)).setCell ⟨bx, 2, none⟩ (.slice tn.a2 tn.n2 tn.c2) = W := ⟨_, rfl⟩
          rw [hW9] at FX FSt
          have HFX := hide FX
          have HFS := hide FSt
          clear X8 S8 FX FSt rn
          refine wpTill_one (k := 14) (by kernel_rfl) rfl (fun K hK => ?_)
          (try simp only [List.getElem_toArray, List.getElem_cons_succ, List.getElem_cons_zero])
          go_simp
          refine hK.out _ _ (fun h => absurd (h.symm.trans (by kernel_rfl)) Bool.false_ne_true) ?_
          clear hK K
          (try simp only [Act.put, List.setIfInBounds_toArray, List.set_cons_zero, List.set_cons_succ])
          refine wpTill_done (by kernel_rfl) ?_ _
          clear l0 l1 l2 y0 y1 y2 hW9 hC0 hC_1 hC_2 cc_1 cc_2 bd0 HCC HMU HSU HS HX
          go_wp2_with fail
          exact ⟨⟨c + 1, i + 1, tn, by go_num, by have := unhide HIC; omega, hlt2, unhide HFS, unhide HFX⟩, by simp [intOf]; omega⟩
        · obtain rfl : i = n := by omega
          have hcm : c = m := by omega
          subst hcm
          have ⟨⟨c0, c1, c2⟩, _⟩ := hM.cells (i := k) (j := k) (by omega) (by omega)
          have ra := hM.rat k k (by omega) (by omega)
          obtain ⟨tl, htl⟩ : ∃ t, (uss k)[k]! = t := ⟨_, rfl⟩
          rw [htl, unhide HBK] at c0 c1 c2
          rw [htl] at ra
          have HCC : Hid (∀ W, Below wr.heap.size wr W → (fun w' : World => (w'.cell? ⟨bx, 0, none⟩ = some (.bool t.s) ∧ w'.cell? ⟨bx, 1, none⟩ = some (.slice t.a1 t.n1 t.c1) ∧ w'.cell? ⟨bx, 2, none⟩ = some (.slice t.a2 t.n2 t.c2)) ∧ w'.cell? ⟨G, k, none⟩ = some (.slice (some ⟨bk, 0, none⟩) (i + 1) (i + 1)) ∧ (w'.cell? ⟨bk, k * 3, none⟩ = some (.bool tl.s) ∧ w'.cell? ⟨bk, k * 3 + 1, none⟩ = some (.slice tl.a1 tl.n1 tl.c1) ∧ w'.cell? ⟨bk, k * 3 + 2, none⟩ = some (.slice tl.a2 tl.n2 tl.c2))) W) := fun W hW => by
            refine ⟨(unhide HX).cells W hW, by rw [hW.cell (p := ⟨G, k, none⟩) hGl]; exact kh, ?_⟩
            rw [hW.cell (p := ⟨bk, k * 3, none⟩) hkl, hW.cell (p := ⟨bk, k * 3 + 1, none⟩) hkl, hW.cell (p := ⟨bk, k * 3 + 2, none⟩) hkl]; exact ⟨c0, c1, c2⟩
          have hX1 : xb S (c + 1) = xb S c + S + c * (S + xb S c + 1) + S := rfl
          have hX2 := xb_le S (a := c + 1) (b := i) (by omega)
          have HDV : Hid (∀ W, Below wr.heap.size wr W → Calls Tryz.prog 121 #[.agg #[.bool t.s, .slice t.a1 t.n1 t.c1, .slice t.a2 t.n2 t.c2], .agg #[.bool tl.s, .slice tl.a1 tl.n1 tl.c1, .slice tl.a2 tl.n2 tl.c2]] W fun e w' => ∃ v, e = .returned v ∧ RatIs w' v (Lin.bk L i (c + 1) k) ∧ Below W.heap.size W w') := fun W hW => by
            have := edivided_any t.val tl.val _ _ W ((unhide HX).2.below hW) (ra.below hW) (xb S i + S) ((rst_RS (unhide HL) (by omega) (fun j _ _ => bk_RS (unhide HL) (unhide HZ) c hm j) c (by omega)).mono (by omega)) ((unhide HL k k (by omega) (by omega)).mono (by omega)) (by omega) (fun x => unhide HZ k (by omega) (Rat.num_eq_zero.1 x))
            have e : Lin.bk L i (c + 1) k = Lin.rst L (Lin.bk L i c) i k c / L k k := by
              show (if k = i - 1 - c then _ else _) = _
              rw [if_pos hk.symm, hk]
            rw [e]
            exact this
          have e1 : ¬ (i : Int) < (i : Int) := by omega
          have e3 : (0 : Int) ≤ (k : Int) := by omega
          have e4 : (k : Int) < (i : Int) := by omega
          have e5 : (k : Int) < (i : Int) + 1 := by omega
          have HIC := hide hic
          clear hS hX hM ra htl c0 c1 c2 hGl kh hkl hX1 hX2 hic
          go_wp2_with fail
          refine wp_region_till (fun w' : World => (w'.cell? ⟨bx, 0, none⟩ = some (.bool t.s) ∧ w'.cell? ⟨bx, 1, none⟩ = some (.slice t.a1 t.n1 t.c1) ∧ w'.cell? ⟨bx, 2, none⟩ = some (.slice t.a2 t.n2 t.c2)) ∧ w'.cell? ⟨G, k, none⟩ = some (.slice (some ⟨bk, 0, none⟩) (i + 1) (i + 1)) ∧ (w'.cell? ⟨bk, k * 3, none⟩ = some (.bool tl.s) ∧ w'.cell? ⟨bk, k * 3 + 1, none⟩ = some (.slice tl.a1 tl.n1 tl.c1) ∧ w'.cell? ⟨bk, k * 3 + 2, none⟩ = some (.slice tl.a2 tl.n2 tl.c2))) 12 (by kernel_rfl) ?_
          have bd0 : Below wr.heap.size wr wr.drew := (Below.refl _ _).drew
          have hC0 : (fun w' : World => (w'.cell? ⟨bx, 0, none⟩ = some (.bool t.s) ∧ w'.cell? ⟨bx, 1, none⟩ = some (.slice t.a1 t.n1 t.c1) ∧ w'.cell? ⟨bx, 2, none⟩ = some (.slice t.a2 t.n2 t.c2)) ∧ w'.cell? ⟨G, k, none⟩ = some (.slice (some ⟨bk, 0, none⟩) (i + 1) (i + 1)) ∧ (w'.cell? ⟨bk, k * 3, none⟩ = some (.bool tl.s) ∧ w'.cell? ⟨bk, k * 3 + 1, none⟩ = some (.slice tl.a1 tl.n1 tl.c1) ∧ w'.cell? ⟨bk, k * 3 + 2, none⟩ = some (.slice tl.a2 tl.n2 tl.c2))) wr.drew := unhide HCC _ bd0
          refine wpTill_pure (i := 0) (v := ?_) rfl (by kernel_rfl) (by kernel_rfl) (by kernel_rfl) (by kernel_rfl) (fun _ _ _ h => h) (Or.inl ⟨by rfl, ?_⟩) (fun _ => hC0) ?_
          rotate_left
          · intro w hSw; clear hSw; go_simp; (try with_reducible rfl)
          (try simp only [List.getElem_toArray, List.getElem_cons_succ, List.getElem_cons_zero])
          (try simp only [Act.put, List.setIfInBounds_toArray, List.set_cons_zero, List.set_cons_succ])
          refine wpTill_pure (i := 1) (v := ?_) rfl (by kernel_rfl) (by kernel_rfl) (by kernel_rfl) (by kernel_rfl) (fun _ _ _ h => h) (Or.inl ⟨by rfl, ?_⟩) (fun _ => hC0) ?_
          rotate_left
          · intro w hSw; clear hSw; go_simp; (try with_reducible rfl)
          (try simp only [List.getElem_toArray, List.getElem_cons_succ, List.getElem_cons_zero])
          (try simp only [Act.put, List.setIfInBounds_toArray, List.set_cons_zero, List.set_cons_succ])
          refine wpTill_take (i := 2) (v := ?_) rfl (by kernel_rfl) (by kernel_rfl) (by kernel_rfl) (by kernel_rfl) (by kernel_rfl) (by kernel_rfl) (fun _ _ _ h => h) (Or.inl ⟨by rfl, ?_⟩) hC0 ?_
          rotate_left
          · intro w hSw; (try dsimp only at hSw); obtain ⟨⟨z0, z1, z2⟩, z3, z4, z5, z6⟩ := hSw; go_simp; (try with_reducible rfl)
          (try simp only [List.getElem_toArray, List.getElem_cons_succ, List.getElem_cons_zero])
          (try simp only [Act.put, List.setIfInBounds_toArray, List.set_cons_zero, List.set_cons_succ])
          refine wpTill_pure (i := 3) (v := ?_) rfl (by kernel_rfl) (by kernel_rfl) (by kernel_rfl) (by kernel_rfl) (fun _ _ _ h => h) (Or.inl ⟨by rfl, ?_⟩) (fun _ => hC0) ?_
          rotate_left
          · intro w hSw; clear hSw; go_simp; (try with_reducible rfl)
          (try simp only [List.getElem_toArray, List.getElem_cons_succ, List.getElem_cons_zero])
          (try simp only [Act.put, List.setIfInBounds_toArray, List.set_cons_zero, List.set_cons_succ])
          refine wpTill_pure (i := 4) (v := ?_) rfl (by kernel_rfl) (by kernel_rfl) (by kernel_rfl) (by kernel_rfl) (fun _ _ _ h => h) (Or.inl ⟨by rfl, ?_⟩) (fun _ => hC0) ?_
          rotate_left
          · intro w hSw; clear hSw; go_simp; (try with_reducible rfl)
          (try simp only [List.getElem_toArray, List.getElem_cons_succ, List.getElem_cons_zero])
          (try simp only [Act.put, List.setIfInBounds_toArray, List.set_cons_zero, List.set_cons_succ])
          refine wpTill_pure (i := 5) (v := ?_) rfl (by kernel_rfl) (by kernel_rfl) (by kernel_rfl) (by kernel_rfl) (fun _ _ _ h => h) (Or.inl ⟨by rfl, ?_⟩) (fun _ => hC0) ?_
          rotate_left
          · intro w hSw; clear hSw; go_simp; (try with_reducible rfl)
          (try simp only [List.getElem_toArray, List.getElem_cons_succ, List.getElem_cons_zero])
          (try simp only [Act.put, List.setIfInBounds_toArray, List.set_cons_zero, List.set_cons_succ])
          refine wpTill_take (i := 6) (v := ?_) rfl (by kernel_rfl) (by kernel_rfl) (by kernel_rfl) (by kernel_rfl) (by kernel_rfl) (by kernel_rfl) (fun _ _ _ h => h) (Or.inl ⟨by rfl, ?_⟩) hC0 ?_
          rotate_left
          · intro w hSw; (try dsimp only at hSw); obtain ⟨⟨z0, z1, z2⟩, z3, z4, z5, z6⟩ := hSw; go_simp; (try with_reducible rfl)
          (try simp only [List.getElem_toArray, List.getElem_cons_succ, List.getElem_cons_zero])
          (try simp only [Act.put, List.setIfInBounds_toArray, List.set_cons_zero, List.set_cons_succ])
          refine wpTill_pure (i := 7) (v := ?_) rfl (by kernel_rfl) (by kernel_rfl) (by kernel_rfl) (by kernel_rfl) (fun _ _ _ h => h) (Or.inl ⟨by rfl, ?_⟩) (fun _ => hC0) ?_
          rotate_left
          · intro w hSw; clear hSw; go_simp; (try with_reducible rfl)
          (try simp only [List.getElem_toArray, List.getElem_cons_succ, List.getElem_cons_zero])
          (try simp only [Act.put, List.setIfInBounds_toArray, List.set_cons_zero, List.set_cons_succ])
          refine wpTill_pure (i := 8) (v := ?_) rfl (by kernel_rfl) (by kernel_rfl) (by kernel_rfl) (by kernel_rfl) (fun _ _ _ h => h) (Or.inl ⟨by rfl, ?_⟩) (fun _ => hC0) ?_
          rotate_left
          · intro w hSw; clear hSw; go_simp; (try with_reducible rfl)
          (try simp only [List.getElem_toArray, List.getElem_cons_succ, List.getElem_cons_zero])
          (try simp only [Act.put, List.setIfInBounds_toArray, List.set_cons_zero, List.set_cons_succ])
          refine wpTill_take (i := 9) (v := ?_) rfl (by kernel_rfl) (by kernel_rfl) (by kernel_rfl) (by kernel_rfl) (by kernel_rfl) (by kernel_rfl) (fun _ _ _ h => h) (Or.inl ⟨by rfl, ?_⟩) hC0 ?_
          rotate_left
          · intro w hSw; (try dsimp only at hSw); obtain ⟨⟨z0, z1, z2⟩, z3, z4, z5, z6⟩ := hSw; go_simp; (try with_reducible rfl)
          (try simp only [List.getElem_toArray, List.getElem_cons_succ, List.getElem_cons_zero])
          (try simp only [Act.put, List.setIfInBounds_toArray, List.set_cons_zero, List.set_cons_succ])
          refine wpTill_one (k := 10) (by kernel_rfl) rfl (fun K hK => ?_)
          (try simp only [List.getElem_toArray, List.getElem_cons_succ, List.getElem_cons_zero])
          go_simp
          refine (unhide HDV _ bd0).mono ?_
          rintro e xw_1 ⟨xv_1, rfl, hv_1, hb_1⟩
          have cc_1 := below_step bd0 hb_1
          have hC_1 : (fun w' : World => (w'.cell? ⟨bx, 0, none⟩ = some (.bool t.s) ∧ w'.cell? ⟨bx, 1, none⟩ = some (.slice t.a1 t.n1 t.c1) ∧ w'.cell? ⟨bx, 2, none⟩ = some (.slice t.a2 t.n2 t.c2)) ∧ w'.cell? ⟨G, k, none⟩ = some (.slice (some ⟨bk, 0, none⟩) (i + 1) (i + 1)) ∧ (w'.cell? ⟨bk, k * 3, none⟩ = some (.bool tl.s) ∧ w'.cell? ⟨bk, k * 3 + 1, none⟩ = some (.slice tl.a1 tl.n1 tl.c1) ∧ w'.cell? ⟨bk, k * 3 + 2, none⟩ = some (.slice tl.a2 tl.n2 tl.c2))) xw_1 := unhide HCC _ cc_1
          refine hK.out _ _ (fun _ => hC_1) ?_
          clear hK K
          (try simp only [Act.put, List.setIfInBounds_toArray, List.set_cons_zero, List.set_cons_succ])
          refine wpTill_pure (i := 11) (v := ?_) rfl (by kernel_rfl) (by kernel_rfl) (by kernel_rfl) (by kernel_rfl) (fun _ _ _ h => h) (Or.inl ⟨by rfl, ?_⟩) (fun _ => hC_1) ?_
          rotate_left
          · intro w hSw; clear hSw; go_simp; (try with_reducible rfl)
          (try simp only [List.getElem_toArray, List.getElem_cons_succ, List.getElem_cons_zero])
          (try simp only [Act.put, List.setIfInBounds_toArray, List.set_cons_zero, List.set_cons_succ])
          obtain ⟨tn, rfl, rn⟩ := tri_of hv_1
          simp only [Tri.val]
          have S8 := (unhide HS).keep cc_1
          have ⟨⟨y0, y1, y2⟩, l0, l1, l2⟩ := S8.cells k (by omega)
          have FZ := S8.set k (by omega) tn _ rn
          rw [bk_set L i c k hk (by omega)] at FZ
          obtain ⟨W9, hW9⟩ : ∃ W, ((xw_1.setCell ⟨Go, k * 3, none⟩ (.bool tn.s)).setCell ⟨Go, k * 3 + 1, none⟩ (.slice tn.a1 tn.n1 tn.c1)).setCell ⟨Go, k * 3 + 2, none⟩ (.slice tn.a2 tn.n2 tn.c2) = W := ⟨_, rfl⟩
          rw [hW9] at FZ
          have HFS := hide FZ
          clear S8 FZ rn hv_1 hb_1
          refine wpTill_one (k := 12) (by kernel_rfl) rfl (fun K hK => ?_)
          (try simp only [List.getElem_toArray, List.getElem_cons_succ, List.getElem_cons_zero])
          go_simp
          refine hK.out _ _ (fun h => absurd (h.symm.trans (by kernel_rfl)) Bool.false_ne_true) ?_
          clear hK K
          (try simp only [Act.put, List.setIfInBounds_toArray, List.set_cons_zero, List.set_cons_succ])
          refine wpTill_done (by kernel_rfl) ?_ _
          clear l0 l1 l2 y0 y1 y2 hW9 hC0 hC_1 cc_1 bd0 HCC HDV HS HX
          go_wp2_with fail
          exact ⟨⟨c + 1, _, by go_num, by omega, unhide HFS⟩, by simp [intOf]⟩
    · obtain rfl : m = n := by omega
      have e1 : (m : Int) - 1 - m = -1 := by omega
      rw [e1]
      have hul : us.length = m := by rw [hS.len, row_length]
      have LW := hS.law (by omega)
      rw [hul] at LW
      have HLW := hide LW
      have HBB := hide hS.bl
      clear hS LW HS
      go_wp2
      go_ret
      exact ⟨_, rfl, unhide HLW, unhide HBB⟩
end Go.Proofs.YtjlohghknejjoaaGreatDoor
