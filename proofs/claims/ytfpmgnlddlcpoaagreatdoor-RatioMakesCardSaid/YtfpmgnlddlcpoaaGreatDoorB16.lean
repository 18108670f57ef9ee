/- The checker's fractions as text. -/
import Derived.Test.YtfpmgnlddlcpoaaGreatDoorB15
import Derived.Test.YtfpmgnlddlcpoaaGreatDoorA10
namespace Go.Proofs.YtfpmgnlddlcpoaaGreatDoor
open Go.RowKit Go.Sort Go.Shelf

def itx (N : Int) : List UInt8 := (if N < 0 then [45] else []) ++ Lib.decDigits N.natAbs
/-- A number whose text is not too long. -/
def Txt (N : Int) : Prop := SmH (N.natAbs : Int) ∧ (Lib.decDigits N.natAbs).length ≤ 100000000

set_option maxHeartbeats 4000000 in
set_option maxRecDepth 100000 in
set_option linter.unusedSimpArgs false in
theorem istring_any (b o : Nat) (N : Int) (w : World) (x : BInt w b o N) (t : Txt N) :
    Calls Tryz.prog 39 #[.pointer (some ⟨b, o, none⟩)] w fun e w' => e = .returned (.string ⟨(itx N).toArray⟩) ∧ Below w.heap.size w w' := by
  have ht := itext_any b o N w x t.1 t.2
  unfold itx
  obtain ⟨R, hR⟩ : ∃ R, (if N < 0 then [45] else []) ++ Lib.decDigits N.natAbs = R := ⟨_, rfl⟩
  rw [hR] at ht ⊢
  have HT := hide ht
  clear ht hR x t
  go_enter Tryz.func39, Tryz.ntmps39
  go_wp2_with fail
  refine (unhide HT).mono ?_
  rintro e w1 ⟨rfl, hb⟩
  go_wp2
  go_ret
  exact ⟨rfl, hb⟩

set_option maxHeartbeats 4000000 in
set_option maxRecDepth 100000 in
set_option linter.unusedSimpArgs false in
theorem rstring_any (b o : Nat) (q : Rat) (w : World) (x : BRat w b o q) (t1 : Txt q.num) (t2 : Txt (q.den : Int)) :
    Calls Tryz.prog 40 #[.pointer (some ⟨b, o, none⟩)] w fun e w' => e = .returned (.string ⟨(itx q.num ++ 47 :: itx (q.den : Int)).toArray⟩) ∧ Below w.heap.size w w' := by
  have h1 := istring_any b o q.num w x.1 t1
  have h2 : ∀ W, Below w.heap.size w W → Calls Tryz.prog 39 #[.pointer (some ⟨b, o + 2, none⟩)] W fun e w' => e = .returned (.string ⟨(itx (q.den : Int)).toArray⟩) ∧ Below W.heap.size W w' := fun W hW => istring_any b (o + 2) (q.den : Int) W (x.2.below hW) t2
  have z1 : (itx q.num).length ≤ 100000001 := by have := t1.2; unfold itx; split <;> simp <;> omega
  have z2 : (itx (q.den : Int)).length ≤ 100000001 := by have := t2.2; rw [Int.natAbs_natCast] at this; unfold itx; split <;> simp <;> omega
  obtain ⟨tN, htN⟩ : ∃ t, (⟨(itx q.num).toArray⟩ : ByteArray) = t := ⟨_, rfl⟩
  obtain ⟨tD, htD⟩ : ∃ t, (⟨(itx (q.den : Int)).toArray⟩ : ByteArray) = t := ⟨_, rfl⟩
  rw [htN] at h1
  rw [htD] at h2
  have sN : tN.size ≤ 100000001 := by rw [← htN]; exact z1
  have sD : tD.size ≤ 100000001 := by rw [← htD]; exact z2
  have e47 : (⟨#[47]⟩ : ByteArray).size = 1 := rfl
  obtain ⟨u1, hu1⟩ : ∃ t, tN ++ (⟨#[47]⟩ : ByteArray) = t := ⟨_, rfl⟩
  have s1 : u1.size ≤ 100000002 := by rw [← hu1, ByteArray.size_append, e47]; omega
  obtain ⟨u2, hu2⟩ : ∃ t, u1 ++ tD = t := ⟨_, rfl⟩
  have r1 : ∀ w, (Op.stringOp .add tN ⟨#[47]⟩).run Tryz.prog w = .ok (.string u1) w := fun w => by rw [run_string_add_sum _ _ _ (by rw [e47]; omega), hu1]
  have r2 : ∀ w, (Op.stringOp .add u1 tD).run Tryz.prog w = .ok (.string u2) w := fun w => by rw [run_string_add_sum _ _ _ (by omega), hu2]
  have hl : (⟨(itx q.num ++ 47 :: itx (q.den : Int)).toArray⟩ : ByteArray) = u2 := by
    rw [← hu2, ← hu1, ← htN, ← htD]
    apply ByteArray.ext
    apply Array.toList_inj.1
    simp
  rw [hl]
  clear hl hu1 hu2 htN htD s1 sN sD e47 z1 z2
  have H1 := hide h1
  have H2 := hide h2
  have HX := hide x
  clear h1 h2 t1 t2 x
  go_enter Tryz.func40, Tryz.ntmps40
  go_wp2_with fail
  refine (unhide H1).mono ?_
  rintro e w1 ⟨rfl, hb1⟩
  have HB1 := hide hb1
  have HD := hide (den_any b o q w1 ((unhide HX).below hb1))
  clear hb1 H1
  go_wp2_with fail
  refine (unhide HD).mono ?_
  rintro e w2 ⟨rfl, hw⟩
  have hw := hw.symm
  subst hw
  go_wp2_with fail
  refine (unhide H2 _ (unhide HB1)).mono ?_
  rintro e w3 ⟨rfl, hb3⟩
  have HB3 := hide (bstep (unhide HB1) hb3)
  clear hb3 H2 HD
  go_wp2
  go_ret
  exact ⟨rfl, unhide HB3⟩

set_option maxHeartbeats 4000000 in
set_option maxRecDepth 100000 in
set_option linter.unusedSimpArgs false in
theorem ratString_any (b o : Nat) (q : Rat) (w : World) (x : BRat w b o q) (t1 : Txt q.num) (t2 : Txt (q.den : Int)) :
    Calls Tryz.prog 21 #[.pointer (some ⟨b, o, none⟩)] w fun e w' => e = .returned (.string ⟨(qtext q).toArray⟩) ∧ Below w.heap.size w w' := by
  have hq : qtext q = itx q.num ++ (if q.den = 1 then [] else 47 :: itx (q.den : Int)) := by
    unfold qtext upperText itx
    rw [if_neg (show ¬ ((q.den : Int) < 0) by omega), Int.natAbs_natCast, List.nil_append]
  have h0 := isInt_any b o q w x
  have h1 : ∀ W, Below w.heap.size w W → Calls Tryz.prog 39 #[.pointer (some ⟨b, o, none⟩)] W fun e w' => e = .returned (.string ⟨(itx q.num).toArray⟩) ∧ Below W.heap.size W w' := fun W hW => istring_any b o q.num W (x.1.below hW) t1
  have h2 : ∀ W, Below w.heap.size w W → Calls Tryz.prog 40 #[.pointer (some ⟨b, o, none⟩)] W fun e w' => e = .returned (.string ⟨(itx q.num ++ 47 :: itx (q.den : Int)).toArray⟩) ∧ Below W.heap.size W w' := fun W hW => rstring_any b o q W (x.below hW) t1 t2
  by_cases hd : q.den = 1
  · rw [if_pos hd, List.append_nil] at hq
    rw [decide_eq_true hd] at h0
    rw [hq]
    obtain ⟨R1, hR1⟩ : ∃ R, itx q.num = R := ⟨_, rfl⟩
    rw [hR1] at h1 ⊢
    have H0 := hide h0
    have H1 := hide h1
    clear h0 h1 h2 hR1 hq hd t1 t2 x
    go_enter Tryz.func21, Tryz.ntmps21
    go_wp2_with fail
    refine (unhide H0).mono ?_
    rintro e w1 ⟨rfl, hb1⟩
    have HB1 := hide hb1
    clear hb1 H0
    go_wp2_with fail
    refine (unhide H1 _ (unhide HB1)).mono ?_
    rintro e w2 ⟨rfl, hb2⟩
    have HB2 := hide (bstep (unhide HB1) hb2)
    clear hb2 H1
    go_wp2
    go_ret
    exact ⟨rfl, unhide HB2⟩
  · rw [if_neg hd] at hq
    rw [decide_eq_false hd] at h0
    rw [hq]
    obtain ⟨R1, hR1⟩ : ∃ R, itx q.num ++ 47 :: itx (q.den : Int) = R := ⟨_, rfl⟩
    rw [hR1] at h2 ⊢
    have H0 := hide h0
    have H1 := hide h2
    clear h0 h1 h2 hR1 hq hd t1 t2 x
    go_enter Tryz.func21, Tryz.ntmps21
    go_wp2_with fail
    refine (unhide H0).mono ?_
    rintro e w1 ⟨rfl, hb1⟩
    have HB1 := hide hb1
    clear hb1 H0
    go_wp2_with fail
    refine (unhide H1 _ (unhide HB1)).mono ?_
    rintro e w2 ⟨rfl, hb2⟩
    have HB2 := hide (bstep (unhide HB1) hb2)
    clear hb2 H1
    go_wp2
    go_ret
    exact ⟨rfl, unhide HB2⟩

set_option maxHeartbeats 4000000 in
set_option maxRecDepth 100000 in
set_option linter.unusedSimpArgs false in
theorem refText_any (b o : Nat) (q : Rat) (w : World) (x : BRat w b o q) (t1 : Txt q.num) (t2 : Txt (q.den : Int)) :
    Calls Tryz.prog 10 #[.pointer (some ⟨b, o, none⟩)] w fun e w' => e = .returned (.string ⟨(qtext q).toArray⟩) ∧ Below w.heap.size w w' := by
  have h1 := ratString_any b o q w x t1 t2
  obtain ⟨R1, hR1⟩ : ∃ R, qtext q = R := ⟨_, rfl⟩
  rw [hR1] at h1 ⊢
  have H1 := hide h1
  clear h1 hR1 x t1 t2
  go_enter Tryz.func10, Tryz.ntmps10
  go_wp2_with fail
  refine (unhide H1).mono ?_
  rintro e w2 ⟨rfl, hb2⟩
  go_wp2
  go_ret
  exact ⟨rfl, hb2⟩
end Go.Proofs.YtfpmgnlddlcpoaaGreatDoor
