/- A text of a fraction is read. -/
import Derived.Test.YtjeddhknmoldcaaDoorW18
namespace Go.Proofs.YtjeddhknmoldcaaDoor
open Go.RowKit Go.Sort Go.Shelf Go.Dd

set_option maxHeartbeats 4000000 in
set_option maxRecDepth 100000 in
theorem parse_core (s : ByteArray) (neg : Bool) (D1 D2 : List UInt8) (U : Nat) (w : World) (hs0 : 0 < s.size) (hneg : ((s[0].toNat : Int) == 45) = neg) (h1 : ∀ b, b ∈ D1 → IsDig b) (h2 : ∀ b, b ∈ D2 → IsDig b) (hl1 : D1.length ≤ 40) (hl2 : D2.length ≤ 40)
    (hU : dval 0 D2 = U) (hU0 : U ≠ 0) (hUw : (U : Int) < 18446744073709551616)
    (HC : ∀ w1, Calls Tryd.prog 14 #[.string s] w1 fun e w' => ∃ o u : ByteArray, e = .returned (.tuple #[.string o, .string u, .nilIface]) ∧ o.data.toList = D1 ∧ u.data.toList = D2 ∧ ∃ q, w' = w1.drewN q) :
    Calls Tryd.prog 5 #[.string s] w fun e w' => ∃ v, e = .returned (.tuple #[v, .nilIface]) ∧ RatIs w' v (mkRat (sn neg (dval 0 D1)) U) ∧ Below w.heap.size w w' := by
  have HC' := hide HC
  have N1 := hide h1
  have N2 := hide h2
  have HU := hide hU

  have s0 : (0 : Int) < s.size := by omega
  clear HC h1 h2 hU
  obtain ⟨W, hW⟩ : ∃ W, w.alloc (.cells #[.bool false, .slice none 0 0, .slice none 0 0] 27) = W := ⟨_, rfl⟩
  have hbW : Below w.heap.size w W := by rw [← hW]; exact (Below.refl _ _).alloc (Nat.le_refl _) _
  have S0 : ∀ w', Below W.heap.size W w' → w'.heap[w.heap.size]? = some (.cells #[.bool false, .slice none 0 0, .slice none 0 0] 27) ∧ w.heap.size < w'.heap.size := fun w' h => by
    rw [← hW] at h
    exact box3 h
  have HS0 := hide S0
  have HWE := hide hW
  have HBW := hide hbW
  have hsmD := small_dval (unhide N1) hl1
  have HSM := hide hsmD
  clear hW hbW S0 hsmD
  go_enter Tryd.func5, Tryd.ntmps5
  go_wp2_with fail
  rw [unhide HWE]
  refine (unhide HC' _).mono ?_
  rintro e w1 ⟨o, u, rfl, ho, hu, q, hw1⟩
  subst hw1
  have hb1 := below_drewN W q
  have hol : (o.size : Int) ≤ 40 := by have : o.size = D1.length := by rw [← ho]; exact (Array.length_toList (xs := o.data)).symm
                                       omega
  have hul : (u.size : Int) ≤ 40 := by have : u.size = D2.length := by rw [← hu]; exact (Array.length_toList (xs := u.data)).symm
                                       omega
  have d1 : decide ((40 : Int) < (o.size : Int)) = false := decide_eq_false (by omega)
  have d2 : decide ((40 : Int) < (u.size : Int)) = false := decide_eq_false (by omega)
  have HO := hide ho
  have HUu := hide hu
  have HOL := hide hol
  have HUL := hide hul
  clear hol hul
  clear ho hu
  go_wp2_with fail
  refine (digits_any u _ (by have := unhide HUL; omega) (by rw [unhide HUu]; exact unhide N2)).mono ?_
  rintro e w2 ⟨v2, rfl, hv2, hr2⟩
  rw [unhide HUu, unhide HU] at hv2
  have hb2 := below_step hb1 hr2
  have hV2 := hide hv2
  obtain ⟨a2, n2, c2, rfl, hl2', _⟩ := hv2
  have hn2 : n2 ≠ 0 := by intro h; subst h; have := hl2'.zero; omega
  have z2 : ((n2 : Int) == 0) = false := by rw [beq_eq_false_iff_ne]; omega
  clear hl2' hn2 hb1 hr2
  go_wp2_with fail
  go_region_held3 (fun _ => True) (trivial)
    (first | (go_at_call 15; refine (digits_any o _ (by have := unhide HOL; omega) (by rw [unhide HO]; exact unhide N1)).mono ?_; rintro e w3 ⟨v3, rfl, hv3, hr3⟩; rw [unhide HO] at hv3; have hb3 := below_step (hb2.trans (below_drew_ge _ _)) hr3; have hV23 := hide (((unhide hV2).below (below_drew_ge _ _)).below hr3)) | (go_at_call 16; refine (lowered_small neg _ _ _ _ _ hv3 (unhide hV23) (sm_of (unhide HSM) (by decide)) hU0 hUw).mono ?_; rintro e w4 ⟨v4, rfl, hv4, hr4⟩; have hb4 := below_step hb3 hr4; have HV4 := hide hv4; obtain ⟨ov8, un8, rfl, hov8, hun8⟩ := hv4; obtain ⟨a18, n18, c18, rfl, _, _⟩ := hov8; obtain ⟨a19, n19, c19, rfl, _, _⟩ := hun8; have ⟨hbx, hsz⟩ := unhide HS0 _ hb4; have ⟨g0, g1, g2, f0, f1, f2⟩ := box_cell hbx; have HBX := hide hbx; clear hbx))
  all_goals
    go_wp2
    have ⟨r1, r2⟩ := rat_boxed (w0 := w) (unhide HV4) (unhide HBX) (below_step (unhide HBW) hb4) (Nat.le_refl _) (Value.bool (decide ((mkRat (sn neg (dval 0 D1)) U).num < 0))) (Value.slice a18 n18 c18) (Value.slice a19 n19 c19)
    exact bodyPost_ret (v := .tuple #[.agg #[.bool (decide ((mkRat (sn neg (dval 0 D1)) U).num < 0)), .slice a18 n18 c18, .slice a19 n19 c19], .nilIface]) (by simp [results, Tryd.results5, go_sem, g0, g1, g2]) rfl ⟨_, rfl, r1, r2⟩
end Go.Proofs.YtjeddhknmoldcaaDoor
