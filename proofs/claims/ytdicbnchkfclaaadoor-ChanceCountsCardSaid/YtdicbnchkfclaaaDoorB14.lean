/- A fraction's text is read back. -/
import Derived.Test.YtdicbnchkfclaaaDoorB12
namespace Go.Proofs.YtdicbnchkfclaaaDoor
open Go.RowKit Go.Sort Go.Shelf Go.Dd

theorem ba_size (l : List UInt8) : (⟨l.toArray⟩ : ByteArray).size = l.length := by show l.toArray.size = _; simp
theorem ba_get (l : List UInt8) (j : Nat) (_h : j < (⟨l.toArray⟩ : ByteArray).size) (h' : j < l.length) : (⟨l.toArray⟩ : ByteArray)[j] = l[j] := by
  show l.toArray[j] = l[j]
  simp

theorem mid_dig (P D T : List UInt8) (hD : ∀ b, b ∈ D → IsDig b) (j : Nat) (h : j < (⟨(P ++ D ++ T).toArray⟩ : ByteArray).size) (h1 : P.length ≤ j) (h2 : j < P.length + D.length) : IsDig (⟨(P ++ D ++ T).toArray⟩ : ByteArray)[j] := by
  have h' := h
  rw [ba_size] at h'
  rw [ba_get _ _ h h']
  rw [List.getElem_append_left (by simp; omega), List.getElem_append_right h1]
  exact hD _ (List.getElem_mem _)

theorem last_dig (P T : List UInt8) (c : UInt8) (hT : ∀ b, b ∈ T → IsDig b) (j : Nat) (h : j < (⟨(P ++ c :: T).toArray⟩ : ByteArray).size) (h1 : P.length < j) : IsDig (⟨(P ++ c :: T).toArray⟩ : ByteArray)[j] := by
  have h' := h
  rw [ba_size] at h'
  rw [ba_get _ _ h h']
  rw [List.getElem_append_right (by omega)]
  obtain ⟨i, hi⟩ : ∃ i, j - P.length = i + 1 := ⟨j - P.length - 1, by omega⟩
  simp only [hi, List.getElem_cons_succ]
  exact hT _ (List.getElem_mem _)

def sgn (q : Rat) : List UInt8 := if q.num < 0 then [45] else []
theorem sgn_len (q : Rat) : (sgn q).length = if q.num < 0 then 1 else 0 := by unfold sgn; split <;> rfl
theorem sgn_le (q : Rat) : (sgn q).length = 0 ∨ (sgn q).length = 1 := by rw [sgn_len]; split <;> simp

theorem sgn_prefix (q : Rat) (D T : List UInt8) (hD : ∀ b, b ∈ D → IsDig b) (h0 : D ≠ []) : Lib.hasPrefix (sgn q ++ D ++ T) [45] = decide ((sgn q).length = 1) := by
  unfold sgn
  split
  · simp [Lib.hasPrefix]
  · cases D with
    | nil => exact absurd rfl h0
    | cons b D =>
      have := (hD b (by simp)).1
      have hb : b ≠ 45 := by intro h; subst h; revert this; decide
      have hb2 : ((45 : UInt8) == b) = false := by rw [beq_eq_false_iff_ne]; exact fun h => hb h.symm
      simp [Lib.hasPrefix, List.isPrefixOf, hb2]

theorem sgn_first (q : Rat) (D T : List UInt8) (hD : ∀ b, b ∈ D → IsDig b) (h0 : D ≠ []) (h : 0 < (⟨(sgn q ++ D ++ T).toArray⟩ : ByteArray).size) : (((⟨(sgn q ++ D ++ T).toArray⟩ : ByteArray)[0].toNat : Int) == 45) = decide (q.num < 0) := by
  have h' := h
  rw [ba_size] at h'
  rw [ba_get _ _ h h']
  by_cases hq : q.num < 0
  · have e : sgn q = [45] := if_pos hq
    simp [e, hq]
  · have e : sgn q = [] := if_neg hq
    cases D with
    | nil => exact absurd rfl h0
    | cons b D =>
      have := (hD b (by simp)).1
      simp [e, hq]
      omega

theorem rat_back (q : Rat) : mkRat (sn (decide (q.num < 0)) (dval 0 (Lib.decDigits q.num.natAbs))) q.den = q := by
  rw [dval_dec]
  have : sn (decide (q.num < 0)) (q.num.natAbs : Int) = q.num := by
    by_cases h : q.num < 0
    · rw [decide_eq_true h]; show -(q.num.natAbs : Int) = q.num; omega
    · rw [decide_eq_false h]; show (q.num.natAbs : Int) = q.num; omega
  rw [this, Rat.mkRat_self]

theorem parse_text (q : Rat) (w : World) (hn : (q.num.natAbs : Int) < 10000000000000000000) (hd : (q.den : Int) < 10000000000000000000) :
    Calls Tryd.prog 28 #[.string ⟨(qtext q).toArray⟩] w fun e w' => ∃ v, e = .returned (.tuple #[v, .nilIface]) ∧ RatIs w' v q ∧ Below w.heap.size w w' := by
  have hD1 := dec_digs q.num.natAbs
  have hl1 := dec_small q.num.natAbs (by omega)
  have hne := dec_ne q.num.natAbs
  have hpos : 0 < (Lib.decDigits q.num.natAbs).length := List.length_pos_iff.2 hne
  have hsg := sgn_le q
  have hback := rat_back q
  by_cases h1 : q.den = 1
  · have eq : qtext q = sgn q ++ Lib.decDigits q.num.natAbs ++ [] := by simp [qtext, upperText, sgn, h1]
    rw [eq]
    have hsz : (⟨(sgn q ++ Lib.decDigits q.num.natAbs ++ []).toArray⟩ : ByteArray).size = (sgn q).length + (Lib.decDigits q.num.natAbs).length := by rw [ba_size]; simp
    have hs0 : 0 < (⟨(sgn q ++ Lib.decDigits q.num.natAbs ++ []).toArray⟩ : ByteArray).size := by omega
    have := parse_core _ (decide (q.num < 0)) (Lib.decDigits q.num.natAbs) [49] q.den w hs0 (sgn_first q _ _ hD1 hne hs0) hD1 (by intro b hb; simp at hb; subst hb; exact ⟨by decide, by decide⟩) (by omega) (by decide) (by rw [h1]; rfl) q.den_nz (by omega) (fun w1 => (cut_whole _ (sgn q).length w1 hsg (sgn_prefix q _ _ hD1 hne) (by omega) (fun j h hj => mid_dig _ _ _ hD1 j h hj (by omega)) (by omega)).mono (by
        rintro e w' ⟨o, rfl, ho, rfl⟩
        refine ⟨o, _, rfl, ?_, rfl, 0, rfl⟩
        rw [ho]
        simp))
    rw [hback] at this
    exact this
  · have eq : qtext q = sgn q ++ Lib.decDigits q.num.natAbs ++ 47 :: Lib.decDigits q.den := by simp [qtext, upperText, sgn, h1]
    have hD2 := dec_digs q.den
    have hl2 := dec_small q.den (by omega)
    have hpos2 : 0 < (Lib.decDigits q.den).length := List.length_pos_iff.2 (dec_ne q.den)
    rw [eq]
    have hsz : (⟨(sgn q ++ Lib.decDigits q.num.natAbs ++ 47 :: Lib.decDigits q.den).toArray⟩ : ByteArray).size = (sgn q).length + (Lib.decDigits q.num.natAbs).length + ((Lib.decDigits q.den).length + 1) := by rw [ba_size]; simp; omega
    have hs0 : 0 < (⟨(sgn q ++ Lib.decDigits q.num.natAbs ++ 47 :: Lib.decDigits q.den).toArray⟩ : ByteArray).size := by omega
    have hk : (sgn q).length + (Lib.decDigits q.num.natAbs).length < (⟨(sgn q ++ Lib.decDigits q.num.natAbs ++ 47 :: Lib.decDigits q.den).toArray⟩ : ByteArray).size := by omega
    have h47 : (⟨(sgn q ++ Lib.decDigits q.num.natAbs ++ 47 :: Lib.decDigits q.den).toArray⟩ : ByteArray)[(sgn q).length + (Lib.decDigits q.num.natAbs).length] = 47 := by
      rw [ba_get _ _ hk (by simp)]
      rw [List.getElem_append_right (by simp)]
      simp
    have := parse_core _ (decide (q.num < 0)) (Lib.decDigits q.num.natAbs) (Lib.decDigits q.den) q.den w hs0 (sgn_first q _ _ hD1 hne hs0) hD1 hD2 (by omega) (by omega) (dval_dec _) q.den_nz (by omega) (fun w1 => (cut_frac _ (sgn q).length ((sgn q).length + (Lib.decDigits q.num.natAbs).length) w1 hsg (sgn_prefix q _ _ hD1 hne) (by omega) (by omega) hk h47 (fun j h hj hj2 => mid_dig _ _ _ hD1 j h hj hj2) (fun j h hj => last_dig _ _ _ hD2 j h (by simpa using hj)) (by omega)).mono (by
        rintro e w' ⟨o, rfl, ho, r, rfl⟩
        refine ⟨o, _, rfl, ?_, ?_, r, rfl⟩
        · rw [ho]
          simp
        · rw [extract_drop]
          show ((sgn q ++ Lib.decDigits q.num.natAbs ++ 47 :: Lib.decDigits q.den).drop _) = _
          rw [List.drop_append]
          simp))
    rw [hback] at this
    exact this
end Go.Proofs.YtdicbnchkfclaaaDoor
/- Two fractions that are alike. -/
namespace Go.Proofs.YtdicbnchkfclaaaDoor
open Go.RowKit Go.Sort Go.Shelf Go.Dd

theorem sg_self (x : Int) : Wd.sg x x = 0 := by simp [Wd.sg]

theorem sm_nat {x : Int} (h : x < 10000000000000000000) : Sm x := sm_word (by omega)

set_option maxHeartbeats 4000000 in
set_option maxRecDepth 100000 in
theorem like_same (va vb : Value) (q : Rat) (w : World) (ha : RatIs w va q) (hb : RatIs w vb q) (hn : (q.num.natAbs : Int) < 10000000000000000000) (hd : (q.den : Int) < 10000000000000000000) (htab : Tab w) :
    Calls Tryd.prog 14 #[va, vb] w fun e w' => e = .returned (.bool true) ∧ Below w.heap.size w w' := by
  have HA := hide ha
  have HB := hide hb
  obtain ⟨ov, un, rfl, h1, h2⟩ := ha
  obtain ⟨ov', un', rfl, h1', h2'⟩ := hb
  obtain ⟨a, n, c, rfl, _, _⟩ := h1
  obtain ⟨a2, n2, c2, rfl, _, _⟩ := h2
  obtain ⟨b, m, d, rfl, _, _⟩ := h1'
  obtain ⟨b2, m2, d2, rfl, _, _⟩ := h2'
  obtain ⟨sa, hsa⟩ : ∃ s, decide (q.num < 0) = s := ⟨_, rfl⟩
  rw [hsa] at HA HB ⊢
  obtain ⟨W, hW⟩ : ∃ W, (w.alloc (.cells #[.bool sa, .slice a n c, .slice a2 n2 c2] 36)).alloc (.cells #[.bool sa, .slice b m d, .slice b2 m2 d2] 36) = W := ⟨_, rfl⟩
  have hbW : Below w.heap.size w W := by rw [← hW]; exact ((Below.refl _ _).alloc (Nat.le_refl _) _).alloc (by simp) _
  have S0 : ∀ w', Below W.heap.size W w' → (w'.cell? ⟨w.heap.size, 0, none⟩ = some (.bool sa) ∧ w'.cell? ⟨w.heap.size, 1, none⟩ = some (.slice a n c) ∧ w'.cell? ⟨w.heap.size, 2, none⟩ = some (.slice a2 n2 c2) ∧
    w'.cell? ⟨w.heap.size + 1, 0, none⟩ = some (.bool sa) ∧ w'.cell? ⟨w.heap.size + 1, 1, none⟩ = some (.slice b m d) ∧ w'.cell? ⟨w.heap.size + 1, 2, none⟩ = some (.slice b2 m2 d2)) ∧ Below W.heap.size W w' := fun w' h => by
    rw [← hW] at h ⊢
    exact ⟨two_boxes h, h⟩
  obtain ⟨t, ht⟩ : ∃ t, (⟨(qtext q).toArray⟩ : ByteArray) = t := ⟨_, rfl⟩
  have CC : ∀ w1, Below W.heap.size W w1 → Calls Tryd.prog 22 #[.agg #[.bool sa, .slice a n c, .slice a2 n2 c2], .agg #[.bool sa, .slice b m d, .slice b2 m2 d2]] w1 fun e w' => e = .returned (.int .i64 0) ∧ Below W.heap.size W w' := fun w1 h1 =>
    (cmpR_any _ _ q q w1 (((unhide HA).below hbW).below h1) (((unhide HB).below hbW).below h1) (sm_nat hn) (sm_nat hn) (sm_nat hd) (sm_nat hd)).mono (by rintro e w' ⟨rfl, h⟩; exact ⟨by rw [sg_self], below_step h1 h⟩)
  have TA : ∀ w1, Below W.heap.size W w1 → Calls Tryd.prog 34 #[.agg #[.bool sa, .slice a n c, .slice a2 n2 c2]] w1 fun e w' => e = .returned (.string t) ∧ Below W.heap.size W w' := fun w1 h1 =>
    (textR_small _ q w1 (((unhide HA).below hbW).below h1) hn hd (tab_below (tab_below htab hbW) h1)).mono (by rintro e w' ⟨rfl, h⟩; exact ⟨by rw [ht], below_step h1 h⟩)
  have TB : ∀ w1, Below W.heap.size W w1 → Calls Tryd.prog 34 #[.agg #[.bool sa, .slice b m d, .slice b2 m2 d2]] w1 fun e w' => e = .returned (.string t) ∧ Below W.heap.size W w' := fun w1 h1 =>
    (textR_small _ q w1 (((unhide HB).below hbW).below h1) hn hd (tab_below (tab_below htab hbW) h1)).mono (by rintro e w' ⟨rfl, h⟩; exact ⟨by rw [ht], below_step h1 h⟩)
  have HS0 := hide S0
  have HCC := hide CC
  have HTA := hide TA
  have HTB := hide TB
  have HWE := hide hW
  have HBW := hide hbW
  have hR := hide (Below.refl W.heap.size W)
  clear CC TA TB S0 hW hbW htab ht hsa HA HB hn hd
  go_enter Tryd.func14, Tryd.ntmps14
  go_wp2_with fail
  rw [unhide HWE]
  go_region_held3 (fun w' => (w'.cell? ⟨w.heap.size, 0, none⟩ = some (.bool sa) ∧ w'.cell? ⟨w.heap.size, 1, none⟩ = some (.slice a n c) ∧ w'.cell? ⟨w.heap.size, 2, none⟩ = some (.slice a2 n2 c2) ∧
      w'.cell? ⟨w.heap.size + 1, 0, none⟩ = some (.bool sa) ∧ w'.cell? ⟨w.heap.size + 1, 1, none⟩ = some (.slice b m d) ∧ w'.cell? ⟨w.heap.size + 1, 2, none⟩ = some (.slice b2 m2 d2)) ∧ Below W.heap.size W w') (first | exact unhide HS0 _ (unhide hR) | exact unhide HS0 _ (unhide hR).drew | exact unhide HS0 _ (by assumption) | exact unhide HS0 _ (Below.drew (by assumption)))
      (first | (go_at_call 22; refine (unhide HCC _ ?_).mono ?_; (first | exact (unhide hR).drew | assumption | exact Below.drew (by assumption)); rintro e w3 ⟨rfl, hb3⟩) | (go_at_call_of 34 (Value.agg #[.bool sa, .slice a n c, .slice a2 n2 c2]); refine (unhide HTA _ ?_).mono ?_; (first | exact (unhide hR).drew | assumption | exact Below.drew (by assumption)); rintro e w4 ⟨rfl, hb4⟩) | (go_at_call_of 34 (Value.agg #[.bool sa, .slice b m d, .slice b2 m2 d2]); refine (unhide HTB _ ?_).mono ?_; (first | exact (unhide hR).drew | assumption | exact Below.drew (by assumption)); rintro e w5 ⟨rfl, hb5⟩))
  all_goals
    go_wp2
    go_ret
    exact ⟨rfl, below_step (unhide HBW) (by assumption)⟩
end Go.Proofs.YtdicbnchkfclaaaDoor
