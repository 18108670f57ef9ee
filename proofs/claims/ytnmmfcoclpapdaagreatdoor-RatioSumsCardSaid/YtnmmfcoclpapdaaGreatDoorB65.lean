/- RatioSums. -/
import Derived.Test.YtnmmfcoclpapdaaGreatDoorB64
namespace Go.Proofs.YtnmmfcoclpapdaaGreatDoor
open Go.RowKit Go.Sort Go.Shelf

theorem dec_len (k : Nat) : ∀ u, u < 10 ^ (k + 1) → (Lib.decDigits u).length ≤ k + 1 := by
  induction k with
  | zero => intro u h; rw [Lib.decDigits, dif_pos (by omega)]; simp
  | succ k ih =>
    intro u h
    rw [Lib.decDigits]
    by_cases h0 : u < 10
    · rw [dif_pos h0]; simp
    · rw [dif_neg h0, List.length_append]
      have := ih (u / 10) (by rw [Nat.pow_succ] at h; omega)
      simp only [List.length_singleton]; omega
theorem qtext_len {q : Rat} (h : RS q 1) : (qtext q).length ≤ 42 := by
  have a1 := h.1
  have a2 := h.2
  rw [Wd.pw_one] at a1 a2
  have b1 := dec_len 19 q.num.natAbs (by have : (18446744073709551616 : Nat) < 10 ^ 20 := by decide
                                         omega)
  have b2 := dec_len 19 q.den (by have : (18446744073709551616 : Nat) < 10 ^ 20 := by decide
                                  omega)
  unfold qtext upperText
  rw [List.length_append, List.length_append]
  have c1 : (if q.num < 0 then [(45 : UInt8)] else []).length ≤ 1 := by split <;> simp
  have c2 : (if q.den = 1 then [] else (47 : UInt8) :: Lib.decDigits q.den).length ≤ 21 := by
    split
    · simp
    · rw [List.length_cons]; omega
  omega
theorem join_len (ts : List (List UInt8)) (h : ∀ t ∈ ts, t.length ≤ 42) : (Lib.join ts [32]).length ≤ 43 * ts.length := by
  cases ts with
  | nil => simp [Lib.join_nil]
  | cons x r =>
    have hx := h x (by simp)
    have hr : ∀ l : List (List UInt8), (∀ t ∈ l, t.length ≤ 42) → (Lib.joinTail [32] l).length ≤ 43 * l.length := fun l => by
      induction l with
      | nil => intro _; simp [Lib.joinTail]
      | cons y l ih =>
        intro hl
        have h1 := hl y (by simp)
        have h2 := ih (fun t ht => hl t (List.mem_cons_of_mem _ ht))
        simp only [Lib.joinTail, List.map_cons, List.flatten_cons, List.length_append, List.length_cons, List.length_nil] at h2 ⊢
        omega
    have := hr r (fun t ht => h t (List.mem_cons_of_mem _ ht))
    rw [Lib.join_cons, List.length_append, List.length_cons]
    omega
set_option maxHeartbeats 8000000 in
set_option maxRecDepth 100000 in
set_option linter.unusedSimpArgs false in
theorem ratioSums_any (v : Value) (ps : List (Int × Int)) (w : World) (h : PairsAre w v ps) (htab : Tab w) :
    Calls Tryz.prog 4 #[v] w fun e w' => e = .returned (.bool true) ∧ Below w.heap.size w w' := by
  have HP := hide h
  obtain ⟨a, c, rfl, h1, h2, h4, h3⟩ := h
  have hrs : ∀ j, j < (pqs ps).length → RS (pqs ps)[j]! 1 := fun j hj => by
    rw [pqs_length] at hj
    have := h4 j hj
    have e : (pqs ps)[j]! = pq ps[j]! := by simp [pqs, hj]
    rw [e]
    exact pq_RS (p := ps[j]!) this.1 this.2
  obtain ⟨n, hn⟩ : ∃ n, ps.length = n := ⟨_, rfl⟩
  rw [hn] at h1 h3 HP ⊢
  by_cases hbig : 100 < n
  · have hbi : (100 : Int) < (n : Int) := by omega
    go_enter Tryz.func4, Tryz.ntmps4
    go_wp2
    go_ret
    exact ⟨rfl, Below.refl _ _⟩
  have hnb : ¬ (100 : Int) < (n : Int) := by omega
  have el : (pqs ps).length = n := by rw [pqs_length]; exact hn
  have hjl : (Lib.join (txts (pqs ps)) [32]).length ≤ 140737488355328 := by
    have := join_len (txts (pqs ps)) (fun t ht => by
      unfold txts at ht
      obtain ⟨q, hq, rfl⟩ := List.mem_map.1 ht
      obtain ⟨j, hj, rfl⟩ := List.getElem_of_mem hq
      have := hrs j hj
      rw [getElem!_pos (pqs ps) j hj] at this
      exact qtext_len this)
    rw [txts_length, el] at this
    omega
  have HRT : RS (qsum (pqs ps) (pqs ps).length) (n * (1 + 1) + 1 + 1) := ((qsum_RS hrs _ (Nat.le_refl _)).mono (by rw [el]; omega))
  obtain ⟨S, hS⟩ : ∃ S : ByteArray, ⟨(qtext (qsum (pqs ps) (pqs ps).length)).toArray⟩ = S := ⟨_, rfl⟩
  obtain ⟨T, hT⟩ : ∃ S : ByteArray, ⟨(Lib.join (txts (pqs ps)) [32]).toArray⟩ = S := ⟨_, rfl⟩
  have HFS : Hid (∀ W, Below w.heap.size w W → Calls Tryz.prog 33 #[.slice a n c] W fun e w' => ∃ v, e = .returned v ∧ LawIs w' v (pqs ps) ∧ Below W.heap.size W w') := fun W hW => fs_any _ ps W ((unhide HP).below hW) (by omega)
  have HLI : Hid (∀ W, Below w.heap.size w W → Calls Tryz.prog 35 #[.slice a n c] W fun e w' => ∃ v, e = .returned v ∧ RList w' v (pqs ps) ∧ Below W.heap.size W w') := fun W hW => refList_any _ ps W ((unhide HP).below hW) (by omega)
  have HSU : Hid (∀ W v, LawIs W v (pqs ps) → Calls Tryz.prog 32 #[v] W fun e w' => ∃ v, e = .returned v ∧ RatIs w' v (qsum (pqs ps) (pqs ps).length) ∧ Below W.heap.size W w') := fun W v hv => sumR_any v (pqs ps) 1 W hv hrs (by rw [el]; unfold KK; omega)
  have HRS : Hid (∀ W v, RList W v (pqs ps) → Calls Tryz.prog 34 #[v] W (NewsZ W (qsum (pqs ps) (pqs ps).length))) := fun W v hv => refSum_any v (pqs ps) 1 W hv hrs (by rw [el]; omega)
  have HTX : Hid (∀ W v, Below w.heap.size w W → RatIs W v (qsum (pqs ps) (pqs ps).length) → Calls Tryz.prog 19 #[v] W fun e w' => e = .returned (.string S) ∧ Below W.heap.size W w') := fun W v hW hr => by rw [← hS]; exact textR_any v _ W hr _ HRT (by unfold KK; omega) (tab_below htab hW)
  have HRX : Hid (∀ W b, BRz W b 0 (qsum (pqs ps) (pqs ps).length) → Calls Tryz.prog 20 #[.pointer (some ⟨b, 0, none⟩)] W fun e w' => e = .returned (.string S) ∧ Below W.heap.size W w') := fun W b hr => by rw [← hS]; exact refTextz_any b 0 _ _ W hr HRT (by omega)
  have HWO : Hid (∀ W v, Below w.heap.size w W → LawIs W v (pqs ps) → Calls Tryz.prog 36 #[v] W fun e w' => e = .returned (.string T) ∧ Below W.heap.size W w') := fun W v hW hv => by rw [← hT]; exact rwords_any v (pqs ps) 1 W hv hrs (by decide) (by rw [el]; omega) (tab_below htab hW) hjl
  have HTS : Hid (∀ W v, RList W v (pqs ps) → Calls Tryz.prog 38 #[v] W fun e w' => ∃ v, e = .returned v ∧ SRow w' v (txts (pqs ps)) ∧ Below W.heap.size W w') := fun W v hv => refTexts_any v (pqs ps) 1 W hv hrs (by decide) (by rw [el]; omega)
  have HJD : Hid (∀ W v, SRow W v (txts (pqs ps)) → Calls Tryz.prog 37 #[v] W fun e w' => e = .returned (.string T) ∧ Below W.heap.size W w') := fun W v hv => by rw [← hT]; exact refJoined_any v _ W hv (by rw [txts_length, el]; omega) hjl
  clear h1 h2 h3 h4 hrs hn htab hjl HRT hS hT HP el hbig
  go_enter Tryz.func4, Tryz.ntmps4
  go_wp2_with fail
  have bd0 : Below w.heap.size w w := Below.refl _ _
  refine (unhide HFS _ bd0).mono ?_
  rintro e xw1 ⟨xv1, rfl, hv1, hb1⟩
  have cc1 := bstep bd0 hb1
  go_wp2_with fail
  refine (unhide HSU _ _ hv1).mono ?_
  rintro e xw2 ⟨xv2, rfl, hv2, hb2⟩
  have cc2 := bstep cc1 hb2
  go_wp2_with fail
  refine (unhide HTX _ _ cc2 hv2).mono ?_
  rintro e xw3 ⟨rfl, hb3⟩
  have cc3 := bstep cc2 hb3
  go_wp2_with fail
  refine (unhide HLI _ cc3).mono ?_
  rintro e xw4 ⟨xv4, rfl, hv4, hb4⟩
  have cc4 := bstep cc3 hb4
  go_wp2_with fail
  refine (unhide HRS _ _ hv4).mono ?_
  rintro e xw5 ⟨xb5, rfl, -, hv5, hb5⟩
  have cc5 := bstep cc4 hb5
  go_wp2_with fail
  refine (unhide HRX _ _ hv5).mono ?_
  rintro e xw6 ⟨rfl, hb6⟩
  have cc6 := bstep cc5 hb6
  go_wp2_with fail
  refine (unhide HFS _ cc6).mono ?_
  rintro e xw7 ⟨xv7, rfl, hv7, hb7⟩
  have cc7 := bstep cc6 hb7
  go_wp2_with fail
  refine (unhide HWO _ _ cc7 hv7).mono ?_
  rintro e xw8 ⟨rfl, hb8⟩
  have cc8 := bstep cc7 hb8
  go_wp2_with fail
  refine (unhide HLI _ cc8).mono ?_
  rintro e xw9 ⟨xv9, rfl, hv9, hb9⟩
  have cc9 := bstep cc8 hb9
  go_wp2_with fail
  refine (unhide HTS _ _ hv9).mono ?_
  rintro e xw10 ⟨xv10, rfl, hv10, hb10⟩
  have cc10 := bstep cc9 hb10
  go_wp2_with fail
  refine (unhide HJD _ _ hv10).mono ?_
  rintro e xw11 ⟨rfl, hb11⟩
  have cc11 := bstep cc10 hb11
  have HBF := hide cc11
  clear hb1 cc1 hb2 cc2 hb3 cc3 hb4 cc4 hb5 cc5 hb6 cc6 hb7 cc7 hb8 cc8 hb9 cc9 hb10 cc10 hb11 cc11 bd0
  go_wp2
  go_ret
  exact ⟨rfl, unhide HBF⟩
end Go.Proofs.YtnmmfcoclpapdaaGreatDoor
