/- ChanceMoment. -/
import Derived.Test.YtnmmfcoclpapdaaGreatDoorB38
import Derived.Test.YtnmmfcoclpapdaaGreatDoorA17
namespace Go.Proofs.YtnmmfcoclpapdaaGreatDoor
open Go.RowKit Go.Sort Go.Shelf

set_option maxHeartbeats 8000000 in
set_option maxRecDepth 100000 in
set_option linter.unusedSimpArgs false in
theorem chanceMoment_any (v : Value) (ps : List (Int × Int)) (p : Int) (w : World) (h : PairsAre w v ps) (hp : I64 p) (htab : Tab w) (hg : ErrTy w) :
    Calls Tryz.prog 7 #[v, .int .i64 p] w fun e w' => e = .returned (.bool true) ∧ Below w.heap.size w w' := by
  have h' := h
  obtain ⟨a, c, hv, h1, h2, h4, -⟩ := h'
  obtain ⟨n, hn⟩ : ∃ n, ps.length = n := ⟨_, rfl⟩
  have HPS := hide h
  have HGT := hide hg
  have HTB := hide htab
  by_cases hbig : 130 < n
  · rw [hn] at hv
    subst hv
    have f1 : (130 : Int) < (n : Int) := by omega
    clear h h4 hg htab hn hbig hp
    go_enter Tryz.func7, Tryz.ntmps7
    go_wp2
    go_ret
    exact ⟨rfl, Below.refl _ _⟩
  · have HPL : Hid (ps.length ≤ 1099511627776) := by show _ ≤ _; omega
    have hqs : ∀ j, j < (pqs ps).length → RS (pqs ps)[j]! 1 := fun j hj => by
      rw [pqs_length] at hj
      have : (pqs ps)[j]! = pq ps[j]! := by simp [pqs, hj]
      rw [this]
      exact pq_RS (h4 j hj).1 (h4 j hj).2
    have HQ := hide hqs
    have hql : (pqs ps).length = n := by rw [pqs_length]; exact hn
    have HKK : Hid (((pqs ps).length * (1 + 1) + 1 + 1) + ((pqs ps).length * (1 + 1) + 1 + 1) + 1 ≤ KK) := by show _ ≤ _; unfold KK; rw [hql]; omega
    have HK4 : Hid (4 * ((pqs ps).length * (1 + 2) + 1 + 10) ≤ KK) := by show _ ≤ _; unfold KK; rw [hql]; omega
    have HKL : Hid ((pqs ps).length * (1 + 1) + 1 + 1 ≤ 399999) := by show _ ≤ _; rw [hql]; omega
    have HLI := hide (refList_any v ps w h (unhide HPL))
    rw [hn] at hv
    subst hv
    have f1 : ¬ (130 : Int) < (n : Int) := by omega
    have HI64 := hide hp
    clear h h4 hg htab hn hbig hqs hql hp
    go_enter Tryz.func7, Tryz.ntmps7
    go_wp2_with fail
    refine (unhide HLI).mono ?_
    rintro e w2 ⟨v2, rfl, hv2, hb2⟩
    have HL2 := hide hv2
    have HB2 := hide hb2
    have HCK := hide (refLawCheck_any v2 (pqs ps) 1 w2 hv2 (unhide HQ) (unhide HKL))
    clear hv2 hb2 HLI
    obtain ⟨k, hk⟩ : ∃ k, chk (pqs ps) = k := ⟨_, rfl⟩
    rw [hk] at HCK
    have HK := hide hk
    clear hk
    go_wp2_with fail
    refine (unhide HCK).mono ?_
    rintro e w4 ⟨rfl, hb4⟩
    have HL4 := hide ((unhide HL2).below hb4)
    have HB4 := hide (bstep (unhide HB2) hb4)
    have HIN := hide (refIntz_any 0 (by decide) (by decide) w4)
    clear hb4 HCK HL2
    by_cases hk0 : k = 0
    · subst hk0
      by_cases hp0 : p < 0 ∨ 4 < p
      · have HNZ : Hid ((2 : Int) ≠ 0) := by show _ ≠ _; decide
        have HP0 := hide hp0
        by_cases hp1 : p < 0
        · clear hp0
          go_wp2_with fail
          refine (unhide HIN).mono ?_
          rintro e w5 ⟨bw, rfl, -, hr5, hb5⟩
          have HBT := hide (bstep (unhide HB4) hb5)
          clear hr5 hb5 HIN
          have HLW := hide (law_any _ ps w5 ((unhide HPS).below (unhide HBT)) (unhide HPL))
          go_wp2_with fail
          refine (unhide HLW).mono ?_
          rintro e x1 ⟨v1, rfl, hv1, hb1⟩
          have HB1 := hide (bstep (unhide HBT) hb1)
          have HBX := hide hb1
          have HMO := hide (momentI_bad v1 (pqs ps) 1 p x1 hv1 (unhide HQ) (unhide HKK) (unhide HK) (unhide HP0))
          clear hv1 hb1 HLW
          go_wp2_with fail
          refine (unhide HMO).mono ?_
          rintro e x2 ⟨rfl, hb2⟩
          obtain ⟨t, ht⟩ : ∃ t : Tri, zAgg = t.val := ⟨⟨false, none, none, 0, 0, 0, 0⟩, rfl⟩
          have hr2 : RatIs x2 t.val 0 := by rw [← ht]; exact rat_zero x2
          rw [ht]
          clear ht
          have HB2 := hide (bstep (unhide HB1) hb2)
          have HBX2 := hide (bstep (unhide HBX) hb2)
          have bA := abelow x2 (.cells #[.bool t.s, .slice t.a1 t.n1 t.c1, .slice t.a2 t.n2 t.c2] 27)
          have hcl : (x2.alloc (.cells #[.bool t.s, .slice t.a1 t.n1 t.c1, .slice t.a2 t.n2 t.c2] 27)).heap.size = x2.heap.size + 1 := by rw [alloc_heap, Array.size_push]
          have HON := hide (one_err t.val bw 2 (unhide HNZ) (x2.alloc (.cells #[.bool t.s, .slice t.a1 t.n1 t.c1, .slice t.a2 t.n2 t.c2] 27)) (hr2.below bA) (tab_below (unhide HTB) (bstep (unhide HB2) bA)) ((unhide HGT).below (bstep (unhide HB2) bA)))
          have HB3 := hide (bstep (unhide HB2) bA)
          simp only [Tri.val] at HON ⊢
          clear hr2 hb2 HMO bA hcl
          go_wp2_with fail
          refine (unhide HON).mono ?_
          rintro e x4 ⟨rfl, hb4⟩
          have HB4 := hide (bstep (unhide HB3) hb4)
          clear hb4 HON
          go_wp2
          go_ret
          exact ⟨rfl, unhide HB4⟩
        · have hp2 : 4 < p := hp0.resolve_left hp1
          clear hp0
          go_wp2_with fail
          refine (unhide HIN).mono ?_
          rintro e w5 ⟨bw, rfl, -, hr5, hb5⟩
          have HBT := hide (bstep (unhide HB4) hb5)
          clear hr5 hb5 HIN
          have HLW := hide (law_any _ ps w5 ((unhide HPS).below (unhide HBT)) (unhide HPL))
          go_wp2_with fail
          refine (unhide HLW).mono ?_
          rintro e x1 ⟨v1, rfl, hv1, hb1⟩
          have HB1 := hide (bstep (unhide HBT) hb1)
          have HBX := hide hb1
          have HMO := hide (momentI_bad v1 (pqs ps) 1 p x1 hv1 (unhide HQ) (unhide HKK) (unhide HK) (unhide HP0))
          clear hv1 hb1 HLW
          go_wp2_with fail
          refine (unhide HMO).mono ?_
          rintro e x2 ⟨rfl, hb2⟩
          obtain ⟨t, ht⟩ : ∃ t : Tri, zAgg = t.val := ⟨⟨false, none, none, 0, 0, 0, 0⟩, rfl⟩
          have hr2 : RatIs x2 t.val 0 := by rw [← ht]; exact rat_zero x2
          rw [ht]
          clear ht
          have HB2 := hide (bstep (unhide HB1) hb2)
          have HBX2 := hide (bstep (unhide HBX) hb2)
          have bA := abelow x2 (.cells #[.bool t.s, .slice t.a1 t.n1 t.c1, .slice t.a2 t.n2 t.c2] 27)
          have hcl : (x2.alloc (.cells #[.bool t.s, .slice t.a1 t.n1 t.c1, .slice t.a2 t.n2 t.c2] 27)).heap.size = x2.heap.size + 1 := by rw [alloc_heap, Array.size_push]
          have HON := hide (one_err t.val bw 2 (unhide HNZ) (x2.alloc (.cells #[.bool t.s, .slice t.a1 t.n1 t.c1, .slice t.a2 t.n2 t.c2] 27)) (hr2.below bA) (tab_below (unhide HTB) (bstep (unhide HB2) bA)) ((unhide HGT).below (bstep (unhide HB2) bA)))
          have HB3 := hide (bstep (unhide HB2) bA)
          simp only [Tri.val] at HON ⊢
          clear hr2 hb2 HMO bA hcl
          go_wp2_with fail
          refine (unhide HON).mono ?_
          rintro e x4 ⟨rfl, hb4⟩
          have HB4 := hide (bstep (unhide HB3) hb4)
          clear hb4 HON
          go_wp2
          go_ret
          exact ⟨rfl, unhide HB4⟩
      · obtain ⟨pn, rfl⟩ : ∃ pn : Nat, p = (pn : Int) := ⟨p.toNat, by omega⟩
        have HPN : Hid (pn ≤ 4) := by show _ ≤ _; omega
        have hp1 : ¬ (pn : Int) < 0 := by omega
        have hp2 : ¬ 4 < (pn : Int) := by omega
        have hcz := chk_zero (unhide HK)
        have HWR : Hid (RS (wsum (pqs ps) (fun j => ((j ^ pn : Nat) : Int)) (pqs ps).length) 400) := RS.mono (wsum_RS (F := (fun j => ((j ^ pn : Nat) : Int))) (unhide HQ) (fun j hj => pow_I64 (by have := hcz.2.1; omega) (unhide HPN)) _ (Nat.le_refl _)) (by have := hcz.2.1; omega)
        have HLN := hide hcz.2.1
        clear hp0 hcz
        go_wp2_with fail
        refine (unhide HIN).mono ?_
        rintro e w5 ⟨b5, rfl, -, hr5, hb5⟩
        have HB5 := hide (bstep (unhide HB4) hb5)
        have HRM := hide (refMoment_any v2 (pqs ps) pn w5 ((unhide HL4).below hb5) (unhide HQ) (unhide HLN) (unhide HPN))
        clear hr5 hb5 HIN
        go_wp2_with fail
        refine (unhide HRM).mono ?_
        rintro e w6 ⟨bw, rfl, -, hr6, hb6⟩
        have HWX := hide hr6
        have HBT := hide (bstep (unhide HB5) hb6)
        clear hr6 hb6 HRM
        have HLW := hide (law_any _ ps w6 ((unhide HPS).below (unhide HBT)) (unhide HPL))
        go_wp2_with fail
        refine (unhide HLW).mono ?_
        rintro e x1 ⟨v1, rfl, hv1, hb1⟩
        have HB1 := hide (bstep (unhide HBT) hb1)
        have HBX := hide hb1
        have HMO := hide (moment_any v1 (pqs ps) 1 pn x1 hv1 (unhide HQ) (unhide HK4) (unhide HK) (unhide HPN))
        clear hv1 hb1 HLW
        go_wp2_with fail
        refine (unhide HMO).mono ?_
        rintro e x2 ⟨v2, rfl, hv2, hb2⟩
        obtain ⟨t, rfl, hr2⟩ := tri_of hv2
        have HB2 := hide (bstep (unhide HB1) hb2)
        have HBX2 := hide (bstep (unhide HBX) hb2)
        have bA := abelow x2 (.cells #[.bool t.s, .slice t.a1 t.n1 t.c1, .slice t.a2 t.n2 t.c2] 27)
        have hcl : (x2.alloc (.cells #[.bool t.s, .slice t.a1 t.n1 t.c1, .slice t.a2 t.n2 t.c2] 27)).heap.size = x2.heap.size + 1 := by rw [alloc_heap, Array.size_push]
        have HON := hide (one_ok t.val (wsum (pqs ps) (fun j => ((j ^ pn : Nat) : Int)) (pqs ps).length) bw 400 (x2.alloc (.cells #[.bool t.s, .slice t.a1 t.n1 t.c1, .slice t.a2 t.n2 t.c2] 27)) (hr2.below bA) (unhide HWR) (by decide) (tab_below (unhide HTB) (bstep (unhide HB2) bA)) (((unhide HWX).below (unhide HBX2)).below bA))
        have HB3 := hide (bstep (unhide HB2) bA)
        simp only [Tri.val] at HON ⊢
        clear hr2 hb2 HMO bA hcl hv2
        go_wp2_with fail
        refine (unhide HON).mono ?_
        rintro e x4 ⟨rfl, hb4⟩
        have HB4 := hide (bstep (unhide HB3) hb4)
        clear hb4 HON
        go_wp2
        go_ret
        exact ⟨rfl, unhide HB4⟩
    · have hkb : (k == 0) = false := by simpa using hk0
      have HNZ : Hid (k ≠ 0) := hk0
      have HKN : Hid (chk (pqs ps) ≠ 0) := by show _ ≠ _; rw [unhide HK]; exact hk0
      clear hk0
      go_wp2_with fail
      refine (unhide HIN).mono ?_
      rintro e w5 ⟨bw, rfl, -, hr5, hb5⟩
      have HBT := hide (bstep (unhide HB4) hb5)
      clear hr5 hb5 HIN
      have HLW := hide (law_any _ ps w5 ((unhide HPS).below (unhide HBT)) (unhide HPL))
      go_wp2_with fail
      refine (unhide HLW).mono ?_
      rintro e x1 ⟨v1, rfl, hv1, hb1⟩
      have HB1 := hide (bstep (unhide HBT) hb1)
      have HBX := hide hb1
      have HMO := hide (momentI_err v1 (pqs ps) 1 p x1 hv1 (unhide HQ) (unhide HKK) (unhide HKN))
      clear hv1 hb1 HLW
      go_wp2_with fail
      refine (unhide HMO).mono ?_
      rintro e x2 ⟨rfl, hb2⟩
      rw [errV_not (unhide HKN), unhide HK]
      obtain ⟨t, ht⟩ : ∃ t : Tri, zAgg = t.val := ⟨⟨false, none, none, 0, 0, 0, 0⟩, rfl⟩
      have hr2 : RatIs x2 t.val 0 := by rw [← ht]; exact rat_zero x2
      rw [ht]
      clear ht
      have HB2 := hide (bstep (unhide HB1) hb2)
      have HBX2 := hide (bstep (unhide HBX) hb2)
      have bA := abelow x2 (.cells #[.bool t.s, .slice t.a1 t.n1 t.c1, .slice t.a2 t.n2 t.c2] 27)
      have hcl : (x2.alloc (.cells #[.bool t.s, .slice t.a1 t.n1 t.c1, .slice t.a2 t.n2 t.c2] 27)).heap.size = x2.heap.size + 1 := by rw [alloc_heap, Array.size_push]
      have HON := hide (one_err t.val bw k (unhide HNZ) (x2.alloc (.cells #[.bool t.s, .slice t.a1 t.n1 t.c1, .slice t.a2 t.n2 t.c2] 27)) (hr2.below bA) (tab_below (unhide HTB) (bstep (unhide HB2) bA)) ((unhide HGT).below (bstep (unhide HB2) bA)))
      have HB3 := hide (bstep (unhide HB2) bA)
      simp only [Tri.val] at HON ⊢
      clear hr2 hb2 HMO bA hcl
      go_wp2_with fail
      refine (unhide HON).mono ?_
      rintro e x4 ⟨rfl, hb4⟩
      have HB4 := hide (bstep (unhide HB3) hb4)
      clear hb4 HON
      go_wp2
      go_ret
      exact ⟨rfl, unhide HB4⟩
end Go.Proofs.YtnmmfcoclpapdaaGreatDoor
