/- RenewComes: the walk. -/
import Derived.Test.YtcelbgleajpenaaGreatDoorRL1
import Derived.Test.YtcelbgleajpenaaGreatDoorRE3
import Derived.Test.YtcelbgleajpenaaGreatDoorRE0
namespace Go.Proofs.YtcelbgleajpenaaGreatDoor
open Go.RowKit Go.Sort Go.Shelf

/-- Is a row too long to be gone through? -/
def lgB (n m : Nat) : Bool := decide ((m < n ∧ n ≤ 101) ∨ 130 < n)
set_option maxHeartbeats 16000000 in
set_option maxRecDepth 100000 in
set_option linter.unusedSimpArgs false in
theorem llong_any (a : Option Addr) (n c m : Nat) (w : World) :
    Calls Tryz.prog 26 #[.slice a n c, .int .i64 (m : Int)] w fun e w' => e = .returned (.bool (lgB n m)) ∧ w' = w := by
  by_cases h1 : m < n
  · have e1 : (m : Int) < (n : Int) := by omega
    by_cases h2 : n ≤ 101
    · have e2 : (n : Int) ≤ 101 := by omega
      rw [show lgB n m = true from decide_eq_true (Or.inl ⟨h1, h2⟩)]
      go_enter Tryz.func26, Tryz.ntmps26
      go_wp2
      go_ret
      exact ⟨rfl, rfl⟩
    · have e2 : ¬ (n : Int) ≤ 101 := by omega
      by_cases h3 : 130 < n
      · have e3 : (130 : Int) < (n : Int) := by omega
        rw [show lgB n m = true from decide_eq_true (Or.inr h3)]
        go_enter Tryz.func26, Tryz.ntmps26
        go_wp2
        go_ret
        exact ⟨rfl, rfl⟩
      · have e3 : ¬ (130 : Int) < (n : Int) := by omega
        rw [show lgB n m = false from decide_eq_false (by omega)]
        go_enter Tryz.func26, Tryz.ntmps26
        go_wp2
        go_ret
        exact ⟨rfl, rfl⟩
  · have e1 : ¬ (m : Int) < (n : Int) := by omega
    by_cases h3 : 130 < n
    · have e3 : (130 : Int) < (n : Int) := by omega
      rw [show lgB n m = true from decide_eq_true (Or.inr h3)]
      go_enter Tryz.func26, Tryz.ntmps26
      go_wp2
      go_ret
      exact ⟨rfl, rfl⟩
    · have e3 : ¬ (130 : Int) < (n : Int) := by omega
      rw [show lgB n m = false from decide_eq_false (by omega)]
      go_enter Tryz.func26, Tryz.ntmps26
      go_wp2
      go_ret
      exact ⟨rfl, rfl⟩

end Go.Proofs.YtcelbgleajpenaaGreatDoor
namespace Go.Proofs.YtcelbgleajpenaaGreatDoor
open Go.RowKit Go.Sort Go.Shelf

theorem lgB_false10 {n : Nat} (h : lgB n 10 = false) : ¬ (10 < n ∧ n ≤ 101) ∧ n ≤ 130 := by
  have := of_decide_eq_false h
  omega
theorem lst_of {x : Nat → Rat} {g : Nat} (h : Rnw.Age x g) : Rnw.Lst x := by
  refine ⟨h.nn, fun k => ?_⟩
  have e := Rnw.ps_front x k
  rw [h.z] at e
  have f := h.sv_nn k
  have e2 : Rnw.sv x k = 1 - Bth.ps x (k + 1) := rfl
  rw [e2, e] at f
  grind
theorem mvs_RS {x : Nat → Rat} {S : Nat} {up : Nat} (h : ∀ t, t ≤ up → RS (Rnw.u x t) S) : ∀ k, k ≤ up → RS (Rnw.mv x k) (k * (S + 1) + 1)
  | 0, _ => by
    show RS 0 _
    exact (show RS ((0 : Int) : Rat) 1 from RS_int ⟨by decide, by decide⟩).mono (by omega)
  | k + 1, hk => by
    have ih := mvs_RS h k (by omega)
    show RS (Rnw.mv x k + Rnw.u x (k + 1)) _
    exact (ih.add (h (k + 1) hk)).mono (by rw [Nat.succ_mul]; omega)
set_option maxHeartbeats 16000000 in
set_option maxRecDepth 100000 in
set_option linter.unusedSimpArgs false in
theorem renewComes_any (v : Value) (ps : List (Int × Int)) (up : Int) (w : World) (h : PairsAre w v ps) (htab : Tab w) (hg : ErrTy w) :
    Calls Tryz.prog 6 #[v, .int .i64 up] w fun e w' => e = .returned (.bool true) ∧ Below w.heap.size w w' := by
  have KKe : KK = 1099511627776 := rfl
  have HTB : Hid (∀ W, Below w.heap.size w W → Tab W) := fun W hW => tab_below htab hW
  have HGT : Hid (∀ W, Below w.heap.size w W → ErrTy W) := fun W hW => hg.below hW
  have HRS : Hid (∀ t, t < (pqs ps).length → RS (pqs ps)[t]! 1) := fun t ht => pqs_RS h t ht
  have hpl := pqs_length ps
  have HLI0 : Hid (ps.length ≤ 1000 → Calls Tryz.prog 11 #[v] w fun e w' => ∃ v, e = .returned v ∧ RList w' v (pqs ps) ∧ Below w.heap.size w w') := fun hl => refList_any v ps w h (by omega)
  have HLW0 : Hid (ps.length ≤ 1000 → ∀ W, Below w.heap.size w W → Calls Tryz.prog 31 #[v] W fun e w' => ∃ v, e = .returned v ∧ LawIs w' v (pqs ps) ∧ Below W.heap.size W w') := fun hl W hW => law_any v ps W (h.below hW) (by omega)
  obtain ⟨qs, hqs⟩ : ∃ qs, pqs ps = qs := ⟨_, rfl⟩
  rw [hqs] at HRS HLI0 HLW0 hpl
  obtain ⟨a, c, rfl, h1, h2, -⟩ := h
  obtain ⟨n, hn⟩ : ∃ n, ps.length = n := ⟨_, rfl⟩
  rw [hn] at HLI0 HLW0 hpl h1 ⊢
  have HPL := hide hpl
  have HLG := hide (llong_any a n c 10 w)
  obtain ⟨B, hB⟩ : ∃ B, lgB n 10 = B := ⟨_, rfl⟩
  rw [hB] at HLG
  clear htab hg hqs hn
  cases B with
  | true =>
    clear hpl
    go_enter Tryz.func6, Tryz.ntmps6
    go_wp2_with fail
    refine (unhide HLG).mono ?_
    rintro e w0 ⟨rfl, hw⟩
    have hw' := hw.symm
    subst hw'
    clear hw HLG
    go_wp2
    go_ret
    exact ⟨rfl, Below.refl _ _⟩
  | false =>
    have hlg := lgB_false10 hB
    have HLGF := hide hlg
    have HLI := hide (unhide HLI0 (by omega))
    have HLW := hide (unhide HLW0 (by omega))
    clear HLI0 HLW0 hB
    by_cases u1 : 12 < up
    · by_cases u2 : up ≤ 100
      · clear hpl hlg
        go_enter Tryz.func6, Tryz.ntmps6
        go_wp2_with fail
        refine (unhide HLG).mono ?_
        rintro e w0 ⟨rfl, hw⟩
        have hw' := hw.symm
        subst hw'
        clear hw HLG
        go_wp2
        go_ret
        exact ⟨rfl, Below.refl _ _⟩
      · have u3 : ¬ up < 0 := by omega
        have u4 : 100 < up := by omega
        obtain ⟨k, hr⟩ : ∃ k, rnc qs = k := ⟨_, rfl⟩
        by_cases hk0 : k = 0
        · subst hk0
          have hrt : rtc qs up = 2 := by unfold rtc; rw [if_pos hr, if_pos (by omega)]
          have HCE : Hid (∀ W v, LawIs W v qs → Calls Tryz.prog 30 #[v, .int .i64 up] W fun e w' => e = .returned (.tuple #[.slice none 0 0, .iface 27 (.int .i64 2)]) ∧ Below W.heap.size W w') := fun W v hv => rComes_err v qs 1 up 2 W hv (unhide HRS) (by rw [KKe]; omega) hrt (by decide)
          have HME : Hid (∀ W v, LawIs W v qs → Calls Tryz.prog 32 #[v, .int .i64 up] W fun e w' => e = .returned (.tuple #[.slice none 0 0, .iface 27 (.int .i64 2)]) ∧ Below W.heap.size W w') := fun W v hv => rMany_err v qs 1 up 2 W hv (unhide HRS) (by rw [KKe]; omega) hrt (by decide)
          clear hrt hpl hlg
          go_enter Tryz.func6, Tryz.ntmps6
          go_wp2_with fail
          refine (unhide HLG).mono ?_
          rintro e w0 ⟨rfl, hw⟩
          have hw' := hw.symm
          subst hw'
          clear hw HLG
          go_wp2_with fail
          refine (unhide HLI).mono ?_
          rintro e w1 ⟨v1, rfl, hl1, hb1⟩
          have HC1 := hide (refLife_any v1 qs 1 w1 hl1 (unhide HRS) (by have := unhide HPL; have := unhide HLGF; omega))
          have HL1 := hide hl1
          have HB1 := hide hb1
          rw [hr] at HC1
          clear hb1 hl1 HLI hr
          go_wp2_with fail
          refine (unhide HC1).mono ?_
          rintro e w2 ⟨rfl, hb2⟩
          have HB2 := hide (below_step (unhide HB1) hb2)
          have HL2 := hide ((unhide HL1).below hb2)
          clear hb2 HC1 HL1 HB1
          go_wp2_with fail
          refine (unhide HLW w2 (unhide HB2)).mono ?_
          rintro e w4 ⟨v4, rfl, hl4, hb4⟩
          have HE4 := hide (unhide HCE w4 v4 hl4)
          have HB4 := hide (below_step (unhide HB2) hb4)
          clear hl4 hb4 HB2 HL2
          go_wp2_with fail
          refine (unhide HE4).mono ?_
          rintro e w5 ⟨rfl, hb5⟩
          have HB5 := hide (below_step (unhide HB4) hb5)
          clear hb5 HE4 HB4
          go_wp2_with fail
          refine (unhide HLW w5 (unhide HB5)).mono ?_
          rintro e w6 ⟨v6, rfl, hl6, hb6⟩
          have HE6 := hide (unhide HME w6 v6 hl6)
          have HB6 := hide (below_step (unhide HB5) hb6)
          clear hl6 hb6 HB5
          go_wp2_with fail
          refine (unhide HE6).mono ?_
          rintro e w7 ⟨rfl, hb7⟩
          have HB7 := hide (below_step (unhide HB6) hb7)
          have HO7 := hide (list_err none 0 (.slice none 0 0) 2 (by decide) w7 (unhide HGT w7 (unhide HB7)))
          clear hb7 HE6 HB6
          go_wp2_with fail
          refine (unhide HO7).mono ?_
          rintro e w8 ⟨rfl, hb8⟩
          have HB8 := hide (below_step (unhide HB7) hb8)
          have HO8 := hide (list_err none 0 (.slice none 0 0) 2 (by decide) w8 (unhide HGT w8 (unhide HB8)))
          clear hb8 HO7 HB7
          go_wp2_with fail
          refine (unhide HO8).mono ?_
          rintro e w9 ⟨rfl, hb9⟩
          have HB9 := hide (below_step (unhide HB8) hb9)
          clear hb9 HO8 HB8
          go_wp2
          go_ret
          exact ⟨rfl, unhide HB9⟩
        · have kz : (k == 0) = false := by simpa using hk0
          have kz2 : ¬ k = 0 := hk0
          have hrt : rtc qs up = k := by unfold rtc; rw [if_neg (by rw [hr]; exact hk0), hr]
          have HCE : Hid (∀ W v, LawIs W v qs → Calls Tryz.prog 30 #[v, .int .i64 up] W fun e w' => e = .returned (.tuple #[.slice none 0 0, .iface 27 (.int .i64 k)]) ∧ Below W.heap.size W w') := fun W v hv => rComes_err v qs 1 up k W hv (unhide HRS) (by rw [KKe]; omega) hrt hk0
          have HME : Hid (∀ W v, LawIs W v qs → Calls Tryz.prog 32 #[v, .int .i64 up] W fun e w' => e = .returned (.tuple #[.slice none 0 0, .iface 27 (.int .i64 k)]) ∧ Below W.heap.size W w') := fun W v hv => rMany_err v qs 1 up k W hv (unhide HRS) (by rw [KKe]; omega) hrt hk0
          clear hrt hpl hlg
          go_enter Tryz.func6, Tryz.ntmps6
          go_wp2_with fail
          refine (unhide HLG).mono ?_
          rintro e w0 ⟨rfl, hw⟩
          have hw' := hw.symm
          subst hw'
          clear hw HLG
          go_wp2_with fail
          refine (unhide HLI).mono ?_
          rintro e w1 ⟨v1, rfl, hl1, hb1⟩
          have HC1 := hide (refLife_any v1 qs 1 w1 hl1 (unhide HRS) (by have := unhide HPL; have := unhide HLGF; omega))
          have HL1 := hide hl1
          have HB1 := hide hb1
          rw [hr] at HC1
          clear hb1 hl1 HLI hr
          go_wp2_with fail
          refine (unhide HC1).mono ?_
          rintro e w2 ⟨rfl, hb2⟩
          have HB2 := hide (below_step (unhide HB1) hb2)
          have HL2 := hide ((unhide HL1).below hb2)
          clear hb2 HC1 HL1 HB1
          go_wp2_with fail
          refine (unhide HLW w2 (unhide HB2)).mono ?_
          rintro e w4 ⟨v4, rfl, hl4, hb4⟩
          have HE4 := hide (unhide HCE w4 v4 hl4)
          have HB4 := hide (below_step (unhide HB2) hb4)
          clear hl4 hb4 HB2 HL2
          go_wp2_with fail
          refine (unhide HE4).mono ?_
          rintro e w5 ⟨rfl, hb5⟩
          have HB5 := hide (below_step (unhide HB4) hb5)
          clear hb5 HE4 HB4
          go_wp2_with fail
          refine (unhide HLW w5 (unhide HB5)).mono ?_
          rintro e w6 ⟨v6, rfl, hl6, hb6⟩
          have HE6 := hide (unhide HME w6 v6 hl6)
          have HB6 := hide (below_step (unhide HB5) hb6)
          clear hl6 hb6 HB5
          go_wp2_with fail
          refine (unhide HE6).mono ?_
          rintro e w7 ⟨rfl, hb7⟩
          have HB7 := hide (below_step (unhide HB6) hb7)
          have HO7 := hide (list_err none 0 (.slice none 0 0) k hk0 w7 (unhide HGT w7 (unhide HB7)))
          clear hb7 HE6 HB6
          go_wp2_with fail
          refine (unhide HO7).mono ?_
          rintro e w8 ⟨rfl, hb8⟩
          have HB8 := hide (below_step (unhide HB7) hb8)
          have HO8 := hide (list_err none 0 (.slice none 0 0) k hk0 w8 (unhide HGT w8 (unhide HB8)))
          clear hb8 HO7 HB7
          go_wp2_with fail
          refine (unhide HO8).mono ?_
          rintro e w9 ⟨rfl, hb9⟩
          have HB9 := hide (below_step (unhide HB8) hb9)
          clear hb9 HO8 HB8
          go_wp2
          go_ret
          exact ⟨rfl, unhide HB9⟩
    · obtain ⟨k, hr⟩ : ∃ k, rnc qs = k := ⟨_, rfl⟩
      by_cases hk0 : k = 0
      · subst hk0
        by_cases u3 : up < 0
        · have hrt : rtc qs up = 2 := by unfold rtc; rw [if_pos hr, if_pos (by omega)]
          have HCE : Hid (∀ W v, LawIs W v qs → Calls Tryz.prog 30 #[v, .int .i64 up] W fun e w' => e = .returned (.tuple #[.slice none 0 0, .iface 27 (.int .i64 2)]) ∧ Below W.heap.size W w') := fun W v hv => rComes_err v qs 1 up 2 W hv (unhide HRS) (by rw [KKe]; omega) hrt (by decide)
          have HME : Hid (∀ W v, LawIs W v qs → Calls Tryz.prog 32 #[v, .int .i64 up] W fun e w' => e = .returned (.tuple #[.slice none 0 0, .iface 27 (.int .i64 2)]) ∧ Below W.heap.size W w') := fun W v hv => rMany_err v qs 1 up 2 W hv (unhide HRS) (by rw [KKe]; omega) hrt (by decide)
          clear hrt hpl hlg
          go_enter Tryz.func6, Tryz.ntmps6
          go_wp2_with fail
          refine (unhide HLG).mono ?_
          rintro e w0 ⟨rfl, hw⟩
          have hw' := hw.symm
          subst hw'
          clear hw HLG
          go_wp2_with fail
          refine (unhide HLI).mono ?_
          rintro e w1 ⟨v1, rfl, hl1, hb1⟩
          have HC1 := hide (refLife_any v1 qs 1 w1 hl1 (unhide HRS) (by have := unhide HPL; have := unhide HLGF; omega))
          have HL1 := hide hl1
          have HB1 := hide hb1
          rw [hr] at HC1
          clear hb1 hl1 HLI hr
          go_wp2_with fail
          refine (unhide HC1).mono ?_
          rintro e w2 ⟨rfl, hb2⟩
          have HB2 := hide (below_step (unhide HB1) hb2)
          have HL2 := hide ((unhide HL1).below hb2)
          clear hb2 HC1 HL1 HB1
          go_wp2_with fail
          refine (unhide HLW w2 (unhide HB2)).mono ?_
          rintro e w4 ⟨v4, rfl, hl4, hb4⟩
          have HE4 := hide (unhide HCE w4 v4 hl4)
          have HB4 := hide (below_step (unhide HB2) hb4)
          clear hl4 hb4 HB2 HL2
          go_wp2_with fail
          refine (unhide HE4).mono ?_
          rintro e w5 ⟨rfl, hb5⟩
          have HB5 := hide (below_step (unhide HB4) hb5)
          clear hb5 HE4 HB4
          go_wp2_with fail
          refine (unhide HLW w5 (unhide HB5)).mono ?_
          rintro e w6 ⟨v6, rfl, hl6, hb6⟩
          have HE6 := hide (unhide HME w6 v6 hl6)
          have HB6 := hide (below_step (unhide HB5) hb6)
          clear hl6 hb6 HB5
          go_wp2_with fail
          refine (unhide HE6).mono ?_
          rintro e w7 ⟨rfl, hb7⟩
          have HB7 := hide (below_step (unhide HB6) hb7)
          have HO7 := hide (list_err none 0 (.slice none 0 0) 2 (by decide) w7 (unhide HGT w7 (unhide HB7)))
          clear hb7 HE6 HB6
          go_wp2_with fail
          refine (unhide HO7).mono ?_
          rintro e w8 ⟨rfl, hb8⟩
          have HB8 := hide (below_step (unhide HB7) hb8)
          have HO8 := hide (list_err none 0 (.slice none 0 0) 2 (by decide) w8 (unhide HGT w8 (unhide HB8)))
          clear hb8 HO7 HB7
          go_wp2_with fail
          refine (unhide HO8).mono ?_
          rintro e w9 ⟨rfl, hb9⟩
          have HB9 := hide (below_step (unhide HB8) hb9)
          clear hb9 HO8 HB8
          go_wp2
          go_ret
          exact ⟨rfl, unhide HB9⟩
        · have u4 : ¬ 100 < up := by omega
          obtain ⟨hA, ht, hl1_, hl2_⟩ := rnc_age hr
          obtain ⟨u', rfl⟩ : ∃ m : Nat, up = (m : Int) := ⟨up.toNat, by omega⟩
          have hu12 : u' ≤ 12 := by omega
          obtain ⟨K, hK⟩ : ∃ K, u' + 1 = K := ⟨_, rfl⟩
          have HKB : Hid (K ≤ 13) := show _ ≤ _ by omega
          obtain ⟨cc, hcc⟩ : ∃ m, m + 1 = qs.length := ⟨qs.length - 1, by omega⟩
          have hq10 : qs.length ≤ 10 := by omega
          have hcz : ∀ j, cc < j → xq qs j = 0 := fun j hj => by
            show qs[j]! = 0
            rw [List.getElem!_eq_getElem?_getD, List.getElem?_eq_none (by omega)]; rfl
          have hS := cmS (up := u') (lst_of hA) hcz (xq_RS (unhide HRS) (Nat.le_refl 1)) (m := qs.length) (by omega)
          have hS121 : qs.length * u' + 1 ≤ 121 := by have := Nat.mul_le_mul hq10 hu12; omega
          obtain ⟨S, hSe⟩ : ∃ S, qs.length * u' + 1 = S := ⟨_, rfl⟩
          rw [hSe] at hS hS121
          have hur : ∀ t, t ≤ u' → RS (Rnw.u (xq qs) t) S := fun t ht => by
            have := hS.oca u' t ht
            rw [Rnw.oca_u hcz t u' ht] at this
            exact this
          have hub : ubd 1 u' ≤ 50000 := Nat.le_trans (ubd_mono 1 hu12) (by decide)
          have hmm : (u' + 1) * (ubd 1 u' + 1) + 1 + ubd 1 u' ≤ 1000000 := by have := Nat.mul_le_mul (show u' + 1 ≤ 13 by omega) (show ubd 1 u' + 1 ≤ 50001 by omega); omega
          have HR1 : Hid (∀ j, j < (row (Rnw.u (xq qs)) K).length → RS (row (Rnw.u (xq qs)) K)[j]! 200000) := fun j hj => by
            rw [row_length] at hj
            rw [row_get hj]
            exact (hur j (by omega)).mono (by omega)
          have HR2 : Hid (∀ j, j < (row (Rnw.mv (xq qs)) K).length → RS (row (Rnw.mv (xq qs)) K)[j]! 200000) := fun j hj => by
            rw [row_length] at hj
            rw [row_get hj]
            exact (mvs_RS hur j (by omega)).mono (by have := Nat.mul_le_mul (show j ≤ 12 by omega) (show S + 1 ≤ 122 by omega); omega)
          have HCK : Hid (∀ W v, LawIs W v qs → Calls Tryz.prog 30 #[v, .int .i64 (u' : Int)] W (RowNil W (row (Rnw.u (xq qs)) K) K)) := fun W v hv => rComes_ok v qs 1 100000 u' K W hv (unhide HRS) hr hK (by omega) (Nat.le_refl _) (by omega) (by omega) (by rw [KKe]; omega)
          have HMK : Hid (∀ W v, LawIs W v qs → Calls Tryz.prog 32 #[v, .int .i64 (u' : Int)] W (RowNil W (row (Rnw.mv (xq qs)) K) K)) := fun W v hv => rMany_ok v qs 1 100000 1000000 u' K W hv (unhide HRS) hr hK (by omega) (Nat.le_refl _) (by omega) (by omega) (by rw [KKe]; omega) hmm (by rw [KKe]; omega)
          have HFC : Hid (∀ W v, RList W v qs → Calls Tryz.prog 28 #[v, .int .i64 (u' : Int)] W fun e w' => ∃ u, e = .returned u ∧ RList w' u (row (Rnw.u (xq qs)) K) ∧ Below W.heap.size W w') := fun W v hv => refComes_any v qs _ cc u' S K W hv rfl hcc hcz hS hK (by omega) (by omega)
          have HFM : Hid (∀ W v, RList W v qs → Calls Tryz.prog 29 #[v, .int .i64 (u' : Int)] W fun e w' => ∃ u, e = .returned u ∧ RList w' u (row (Rnw.mv (xq qs)) K) ∧ Below W.heap.size W w') := fun W v hv => refMany_any v qs _ cc u' S K W hv rfl hcc hcz hS hK (by omega) (by omega)
          have HL1K : Hid ((row (Rnw.u (xq qs)) K).length ≤ 1000000) := show _ ≤ _ by rw [row_length]; omega
          have HL2K : Hid ((row (Rnw.mv (xq qs)) K).length ≤ 1000000) := show _ ≤ _ by rw [row_length]; omega
          obtain ⟨ru, hru⟩ : ∃ l, row (Rnw.u (xq qs)) K = l := ⟨_, rfl⟩
          obtain ⟨rm, hrm⟩ : ∃ l, row (Rnw.mv (xq qs)) K = l := ⟨_, rfl⟩
          rw [hru] at HR1 HCK HFC HL1K
          rw [hrm] at HR2 HMK HFM HL2K
          clear hA ht hl1_ hl2_ hK hcc hq10 hcz hS hS121 hSe hur hub hmm hru hrm hu12 hpl hlg
          go_enter Tryz.func6, Tryz.ntmps6
          go_wp2_with fail
          refine (unhide HLG).mono ?_
          rintro e w0 ⟨rfl, hw⟩
          have hw' := hw.symm
          subst hw'
          clear hw HLG
          go_wp2_with fail
          refine (unhide HLI).mono ?_
          rintro e w1 ⟨v1, rfl, hl1, hb1⟩
          have HC1 := hide (refLife_any v1 qs 1 w1 hl1 (unhide HRS) (by have := unhide HPL; have := unhide HLGF; omega))
          have HL1 := hide hl1
          have HB1 := hide hb1
          rw [hr] at HC1
          clear hb1 hl1 HLI hr
          go_wp2_with fail
          refine (unhide HC1).mono ?_
          rintro e w2 ⟨rfl, hb2⟩
          have HB2 := hide (below_step (unhide HB1) hb2)
          have HL2 := hide ((unhide HL1).below hb2)
          clear hb2 HC1 HL1 HB1
          have HF2 := hide (unhide HFC w2 v1 (unhide HL2))
          go_wp2_with fail
          refine (unhide HF2).mono ?_
          rintro e w3 ⟨v3, rfl, hl3, hb3⟩
          have HL3 := hide hl3
          have HB3 := hide (below_step (unhide HB2) hb3)
          have HM3 := hide (unhide HFM w3 v1 ((unhide HL2).below hb3))
          clear hl3 hb3 HF2 HB2 HL2 HFC HFM
          go_wp2_with fail
          refine (unhide HM3).mono ?_
          rintro e w4 ⟨v4, rfl, hl4, hb4⟩
          have HL4 := hide hl4
          have HL34 := hide ((unhide HL3).below hb4)
          have HB4 := hide (below_step (unhide HB3) hb4)
          clear hl4 hb4 HM3 HB3 HL3
          go_wp2_with fail
          refine (unhide HLW w4 (unhide HB4)).mono ?_
          rintro e w5 ⟨v5, rfl, hl5, hb5⟩
          have HC5 := hide (unhide HCK w5 v5 hl5)
          have HB5 := hide (below_step (unhide HB4) hb5)
          have HL45 := hide ((unhide HL4).below hb5)
          have HL35 := hide ((unhide HL34).below hb5)
          clear hl5 hb5 HB4 HL4 HL34 HCK
          go_wp2_with fail
          refine (unhide HC5).mono ?_
          rintro e w6 ⟨G, us, rfl, hul, hgl, S6⟩
          have hLW := S6.law (by have := unhide HKB; omega)
          rw [hul] at hLW
          have HLC := hide hLW
          have HB6 := hide (below_step (unhide HB5) S6.bl)
          have HL46 := hide ((unhide HL45).below S6.bl)
          have HL36 := hide ((unhide HL35).below S6.bl)
          clear hLW hul hgl S6 HC5 HB5 HL45 HL35
          go_wp2_with fail
          refine (unhide HLW w6 (unhide HB6)).mono ?_
          rintro e w7 ⟨v7, rfl, hl7, hb7⟩
          have HM7 := hide (unhide HMK w7 v7 hl7)
          have HB7 := hide (below_step (unhide HB6) hb7)
          have HL47 := hide ((unhide HL46).below hb7)
          have HL37 := hide ((unhide HL36).below hb7)
          have HLC7 := hide ((unhide HLC).below hb7)
          clear hl7 hb7 HB6 HL46 HL36 HLC HMK
          go_wp2_with fail
          refine (unhide HM7).mono ?_
          rintro e w8 ⟨G2, us2, rfl, hul, hgl, S8⟩
          have hLW := S8.law (by have := unhide HKB; omega)
          rw [hul] at hLW
          have HLM := hide hLW
          have HB8 := hide (below_step (unhide HB7) S8.bl)
          have HL48 := hide ((unhide HL47).below S8.bl)
          have HO8 := hide (list_ok _ v3 ru 200000 w8 ((unhide HLC7).below S8.bl) ((unhide HL37).below S8.bl) (unhide HR1) (Nat.le_refl _) (unhide HL1K) (unhide HTB w8 (unhide HB8)))
          clear hLW hul hgl S8 HM7 HB7 HL47 HL37 HLC7
          go_wp2_with fail
          refine (unhide HO8).mono ?_
          rintro e w9 ⟨rfl, hb9⟩
          have HB9 := hide (below_step (unhide HB8) hb9)
          have HO9 := hide (list_ok _ v4 rm 200000 w9 ((unhide HLM).below hb9) ((unhide HL48).below hb9) (unhide HR2) (Nat.le_refl _) (unhide HL2K) (unhide HTB w9 (unhide HB9)))
          clear hb9 HO8 HB8 HLM HL48
          go_wp2_with fail
          refine (unhide HO9).mono ?_
          rintro e w10 ⟨rfl, hb10⟩
          have HB10 := hide (below_step (unhide HB9) hb10)
          clear hb10 HO9 HB9
          go_wp2
          go_ret
          exact ⟨rfl, unhide HB10⟩
      · have kz : (k == 0) = false := by simpa using hk0
        have kz2 : ¬ k = 0 := hk0
        have hrt : rtc qs up = k := by unfold rtc; rw [if_neg (by rw [hr]; exact hk0), hr]
        have HCE : Hid (∀ W v, LawIs W v qs → Calls Tryz.prog 30 #[v, .int .i64 up] W fun e w' => e = .returned (.tuple #[.slice none 0 0, .iface 27 (.int .i64 k)]) ∧ Below W.heap.size W w') := fun W v hv => rComes_err v qs 1 up k W hv (unhide HRS) (by rw [KKe]; omega) hrt hk0
        have HME : Hid (∀ W v, LawIs W v qs → Calls Tryz.prog 32 #[v, .int .i64 up] W fun e w' => e = .returned (.tuple #[.slice none 0 0, .iface 27 (.int .i64 k)]) ∧ Below W.heap.size W w') := fun W v hv => rMany_err v qs 1 up k W hv (unhide HRS) (by rw [KKe]; omega) hrt hk0
        clear hrt hpl hlg
        go_enter Tryz.func6, Tryz.ntmps6
        go_wp2_with fail
        refine (unhide HLG).mono ?_
        rintro e w0 ⟨rfl, hw⟩
        have hw' := hw.symm
        subst hw'
        clear hw HLG
        go_wp2_with fail
        refine (unhide HLI).mono ?_
        rintro e w1 ⟨v1, rfl, hl1, hb1⟩
        have HC1 := hide (refLife_any v1 qs 1 w1 hl1 (unhide HRS) (by have := unhide HPL; have := unhide HLGF; omega))
        have HL1 := hide hl1
        have HB1 := hide hb1
        rw [hr] at HC1
        clear hb1 hl1 HLI hr
        go_wp2_with fail
        refine (unhide HC1).mono ?_
        rintro e w2 ⟨rfl, hb2⟩
        have HB2 := hide (below_step (unhide HB1) hb2)
        have HL2 := hide ((unhide HL1).below hb2)
        clear hb2 HC1 HL1 HB1
        go_wp2_with fail
        refine (unhide HLW w2 (unhide HB2)).mono ?_
        rintro e w4 ⟨v4, rfl, hl4, hb4⟩
        have HE4 := hide (unhide HCE w4 v4 hl4)
        have HB4 := hide (below_step (unhide HB2) hb4)
        clear hl4 hb4 HB2 HL2
        go_wp2_with fail
        refine (unhide HE4).mono ?_
        rintro e w5 ⟨rfl, hb5⟩
        have HB5 := hide (below_step (unhide HB4) hb5)
        clear hb5 HE4 HB4
        go_wp2_with fail
        refine (unhide HLW w5 (unhide HB5)).mono ?_
        rintro e w6 ⟨v6, rfl, hl6, hb6⟩
        have HE6 := hide (unhide HME w6 v6 hl6)
        have HB6 := hide (below_step (unhide HB5) hb6)
        clear hl6 hb6 HB5
        go_wp2_with fail
        refine (unhide HE6).mono ?_
        rintro e w7 ⟨rfl, hb7⟩
        have HB7 := hide (below_step (unhide HB6) hb7)
        have HO7 := hide (list_err none 0 (.slice none 0 0) k hk0 w7 (unhide HGT w7 (unhide HB7)))
        clear hb7 HE6 HB6
        go_wp2_with fail
        refine (unhide HO7).mono ?_
        rintro e w8 ⟨rfl, hb8⟩
        have HB8 := hide (below_step (unhide HB7) hb8)
        have HO8 := hide (list_err none 0 (.slice none 0 0) k hk0 w8 (unhide HGT w8 (unhide HB8)))
        clear hb8 HO7 HB7
        go_wp2_with fail
        refine (unhide HO8).mono ?_
        rintro e w9 ⟨rfl, hb9⟩
        have HB9 := hide (below_step (unhide HB8) hb9)
        clear hb9 HO8 HB8
        go_wp2
        go_ret
        exact ⟨rfl, unhide HB9⟩

end Go.Proofs.YtcelbgleajpenaaGreatDoor
