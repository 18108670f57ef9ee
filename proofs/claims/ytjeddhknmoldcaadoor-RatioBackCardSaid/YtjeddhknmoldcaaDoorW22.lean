/- A fraction's text. -/
import Derived.Test.YtjeddhknmoldcaaDoorW21
import Derived.Laws.Concat
namespace Go.Proofs.YtjeddhknmoldcaaDoor
open Go.RowKit Go.Sort Go.Shelf Go.Dd

/-- What a fraction's text is. -/
def upperText (q : Rat) : List UInt8 := (if q.num < 0 then [45] else []) ++ Lib.decDigits q.num.natAbs
def qtext (q : Rat) : List UInt8 := upperText q ++ (if q.den = 1 then [] else 47 :: Lib.decDigits q.den)

theorem bytes_of {t : ByteArray} {l : List UInt8} (h : t.data.toList = l) : t = ⟨l.toArray⟩ := by
  subst h
  cases t
  simp

set_option maxHeartbeats 2000000 in
set_option maxRecDepth 100000 in
theorem textR_small (v : Value) (q : Rat) (w : World) (h : RatIs w v q) (hn : (q.num.natAbs : Int) < 10000000000000000000) (hd : (q.den : Int) < 10000000000000000000) (htab : Tab w) :
    Calls Tryd.prog 6 #[v] w fun e w' => e = .returned (.string ⟨(qtext q).toArray⟩) ∧ Below w.heap.size w w' := by
  obtain ⟨ov, un, rfl, h1, h2⟩ := h
  have HN := hide h1
  have HD := hide h2
  obtain ⟨a, n, c, rfl, _, _⟩ := h1
  obtain ⟨a2, n2, c2, rfl, hl2, _⟩ := h2
  obtain ⟨s, hs⟩ : ∃ s, decide (q.num < 0) = s := ⟨_, rfl⟩
  rw [hs]
  obtain ⟨W, hW⟩ : ∃ W, w.alloc (.cells #[.bool s, .slice a n c, .slice a2 n2 c2] 27) = W := ⟨_, rfl⟩
  have hbW : Below w.heap.size w W := by rw [← hW]; exact alloc_below _ _
  have S0 : ∀ w', Below W.heap.size W w' → w'.cell? ⟨w.heap.size, 0, none⟩ = some (.bool s) ∧ w'.cell? ⟨w.heap.size, 1, none⟩ = some (.slice a n c) ∧ w'.cell? ⟨w.heap.size, 2, none⟩ = some (.slice a2 n2 c2) := fun w' h => by
    rw [← hW] at h
    exact one_box h
  have TN := text_small (.slice a n c) _ W ((unhide HN).below hbW) hn (tab_below htab hbW)
  have TD : ∀ w1, Below W.heap.size W w1 → Calls Tryd.prog 17 #[.slice a2 n2 c2] w1 fun e w' => e = .returned (.string ⟨(Lib.decDigits (low q.den).toNat).toArray⟩) ∧ Below W.heap.size W w' := fun w1 h1 =>
    (text_small _ _ w1 (((unhide HD).below hbW).below h1) (by unfold low; split <;> omega) (tab_below (tab_below htab hbW) h1)).mono (by rintro e w' ⟨rfl, h⟩; exact ⟨rfl, below_step h1 h⟩)
  obtain ⟨tN, htN⟩ : ∃ t, (⟨(Lib.decDigits (q.num.natAbs : Int).toNat).toArray⟩ : ByteArray) = t := ⟨_, rfl⟩
  obtain ⟨tD, htD⟩ : ∃ t, (⟨(Lib.decDigits (low q.den).toNat).toArray⟩ : ByteArray) = t := ⟨_, rfl⟩
  rw [htN] at TN
  rw [htD] at TD
  have sN : tN.size ≤ 20 := by rw [← htN]; exact (by simpa using dec_small (q.num.natAbs : Int).toNat (by omega) : (Lib.decDigits (q.num.natAbs : Int).toNat).toArray.size ≤ 20)
  have sD : tD.size ≤ 20 := by
    rw [← htD]
    have : (low q.den).toNat < 18446744073709551616 := by unfold low; split <;> omega
    exact (by simpa using dec_small (low q.den).toNat this : (Lib.decDigits (low q.den).toNat).toArray.size ≤ 20)
  obtain ⟨t1, ht1⟩ : ∃ t, (⟨#[45]⟩ : ByteArray) ++ tN = t := ⟨_, rfl⟩
  obtain ⟨t2, ht2⟩ : ∃ t, (⟨#[47]⟩ : ByteArray) ++ tD = t := ⟨_, rfl⟩
  have e45 : (⟨#[45]⟩ : ByteArray).size = 1 := rfl
  have e47 : (⟨#[47]⟩ : ByteArray).size = 1 := rfl
  have s1 : t1.size ≤ 21 := by rw [← ht1, ByteArray.size_append, e45]; omega
  have s2 : t2.size ≤ 21 := by rw [← ht2, ByteArray.size_append, e47]; omega
  obtain ⟨t3, ht3⟩ : ∃ t, tN ++ t2 = t := ⟨_, rfl⟩
  obtain ⟨t4, ht4⟩ : ∃ t, t1 ++ t2 = t := ⟨_, rfl⟩
  have r1 : ∀ w, (Op.stringOp .add ⟨#[45]⟩ tN).run Tryd.prog w = .ok (.string t1) w := fun w => by rw [run_string_add_sum _ _ _ (by rw [e45]; omega), ht1]
  have r2 : ∀ w, (Op.stringOp .add ⟨#[47]⟩ tD).run Tryd.prog w = .ok (.string t2) w := fun w => by rw [run_string_add_sum _ _ _ (by rw [e47]; omega), ht2]
  have r3 : ∀ w, (Op.stringOp .add tN t2).run Tryd.prog w = .ok (.string t3) w := fun w => by rw [run_string_add_sum _ _ _ (by omega), ht3]
  have r4 : ∀ w, (Op.stringOp .add t1 t2).run Tryd.prog w = .ok (.string t4) w := fun w => by rw [run_string_add_sum _ _ _ (by omega), ht4]
  have l1 : t1.data.toList = 45 :: Lib.decDigits q.num.natAbs := by rw [← ht1, ← htN]; simp
  have l3 : t3.data.toList = Lib.decDigits q.num.natAbs ++ 47 :: Lib.decDigits (low q.den).toNat := by rw [← ht3, ← ht2, ← htN, ← htD]; simp
  have l4 : t4.data.toList = 45 :: (Lib.decDigits q.num.natAbs ++ 47 :: Lib.decDigits (low q.den).toNat) := by rw [← ht4, ← ht2, ← ht1, ← htN, ← htD]; simp
  have HtN := hide htN
  have HtD := hide htD
  have L1 := hide l1
  have L3 := hide l3
  have L4 := hide l4
  clear htN htD sN sD s1 s2 ht1 ht2 ht3 ht4 e45 e47 l1 l3 l4
  have ⟨k0, k1, k2⟩ := S0 W (Below.refl _ _)
  have HS0 := hide S0
  have HTN := hide TN
  have HTD := hide TD
  have HWE := hide hW
  have HBW := hide hbW
  clear hW hbW S0 TN TD htab
  by_cases hd1 : q.den = 1
  · have hn2 : n2 = 0 := by
      rw [hd1] at hl2
      rcases hl2.2.2 with h | h
      · exact h
      · have := Wd.pw_pos (n2 - 1); simp [low] at h; omega
    subst hn2
    have HQ : Hid (qtext q = (if s then [45] else []) ++ Lib.decDigits q.num.natAbs) := by
      show qtext q = _
      rw [← hs]; simp [qtext, upperText, hd1]
    clear hs hl2
    cases s
    · go_enter Tryd.func6, Tryd.ntmps6
      go_wp2_with fail
      rw [unhide HWE]
      refine (unhide HTN).mono ?_
      rintro e w1 ⟨rfl, hb1⟩
      have ⟨g0, g1, g2⟩ := unhide HS0 _ hb1
      go_wp2
      go_ret
      refine ⟨?_, below_step (unhide HBW) hb1⟩
      rewrite [unhide HQ, ← unhide HtN]
      rfl
    · go_enter Tryd.func6, Tryd.ntmps6
      go_wp2_with fail
      rw [unhide HWE]
      refine (unhide HTN).mono ?_
      rintro e w1 ⟨rfl, hb1⟩
      have ⟨g0, g1, g2⟩ := unhide HS0 _ hb1
      go_wp2
      go_ret
      refine ⟨?_, below_step (unhide HBW) hb1⟩
      rewrite [unhide HQ]
      exact congrArg (fun t => Ending.returned (Value.string t)) (bytes_of (unhide L1))
  · have hn2 : n2 ≠ 0 := by
      intro h; subst h
      have := hl2.zero
      have := q.den_nz
      unfold low at *
      split at * <;> omega
    have z2 : 0 < n2 := by omega
    have HQ : Hid (qtext q = ((if s then [45] else []) ++ Lib.decDigits q.num.natAbs) ++ (47 :: Lib.decDigits (low q.den).toNat)) := by
      show qtext q = _
      rw [← hs]; simp [qtext, upperText, hd1, low]
    clear hs hl2 hn2 hd1 hn hd
    cases s
    · go_enter Tryd.func6, Tryd.ntmps6
      go_wp2_with fail
      rw [unhide HWE]
      refine (unhide HTN).mono ?_
      rintro e w1 ⟨rfl, hb1⟩
      have ⟨g0, g1, g2⟩ := unhide HS0 _ hb1
      have HB1 := hide hb1
      clear hb1
      go_wp2_with fail
      refine (unhide HTD _ (unhide HB1)).mono ?_
      rintro e w2 ⟨rfl, hb2⟩
      go_wp2
      go_ret
      refine ⟨?_, below_step (unhide HBW) hb2⟩
      rewrite [unhide HQ]
      exact congrArg (fun t => Ending.returned (Value.string t)) (bytes_of (unhide L3))
    · go_enter Tryd.func6, Tryd.ntmps6
      go_wp2_with fail
      rw [unhide HWE]
      refine (unhide HTN).mono ?_
      rintro e w1 ⟨rfl, hb1⟩
      have ⟨g0, g1, g2⟩ := unhide HS0 _ hb1
      have HB1 := hide hb1
      clear hb1
      go_wp2_with fail
      refine (unhide HTD _ (unhide HB1)).mono ?_
      rintro e w2 ⟨rfl, hb2⟩
      go_wp2
      go_ret
      refine ⟨?_, below_step (unhide HBW) hb2⟩
      rewrite [unhide HQ]
      exact congrArg (fun t => Ending.returned (Value.string t)) (bytes_of (unhide L4))
end Go.Proofs.YtjeddhknmoldcaaDoor
