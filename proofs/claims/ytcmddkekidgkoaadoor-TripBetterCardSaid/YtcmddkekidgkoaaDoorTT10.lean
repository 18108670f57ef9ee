/- For every map and way, what is wrong with them, or the way where turning pieces over ends, is the document's: the law returns true and leaves its arguments alone. Condition: errors.errorType starts as the program's text lays it (the card ties it). -/
import Derived.Test.YtcmddkekidgkoaaDoorTT9
import Derived.Test.YtcmddkekidgkoaaDoorFT2
import Derived.Test.YtcmddkekidgkoaaDoorF4
import Derived.Test.YtcmddkekidgkoaaDoorTie
import Derived.Test.YtcmddkekidgkoaaDoorCards
import Derived.SevenTiedAt
namespace Go.Proofs.YtcmddkekidgkoaaDoor
open Go.ChangeShapes Go.WideShapes Go.ChangeAt Go.RowKit Go.Joins

set_option maxRecDepth 100000 in
theorem tripBetter_lifted (os : Os) (started : os.Started) (H : Type) (enc : TypeId × Value → H) :
    ReturnsInHanded {} Tryd.checked os 10 .any (fun w args => (Rows.tripBetterSpec.pre enc Tryd.prog Tryd.f10 [] false w args ∧ laidMetH Tryd.prog laid1 w) ∧ sizedMet enc Tryd.prog Tryd.f10 (OpenSpec.ofChange Rows.tripBetterSpec) false w args)
      (Rows.tripBetterSpec.post enc Tryd.prog Tryd.f10 false true false false) := by
  refine returnsInHanded_of_change_and (C := Tryd.checked) (X := fun w _ => laidMetH Tryd.prog laid1 w) (fun _ _ _ hh h => h.of_heap hh) Tryd.own started (by kernel_rfl) Tryd.func10
    (ChangeSpec.witness_shaped (enc := enc) (C := Tryd.checked) (os := os) (X := fun w _ => laidMetH Tryd.prog laid1 w) false (World.doorLaid Tryd.prog 400 os) #[.slice none 0 0, .slice none 0 0] 8 rfl (World.shaped_of_RefB (by kernel_rfl) (by kernel_rfl)) (by kernel_rfl) (by kernel_rfl) (by kernel_rfl) (door_met os _)) ?_
  intro W base args ds gs before hval0 hW _ _ hL _
  have hval : ∀ (j : Nat) t v, Tryd.f10.params[j]? = some t → args[j]? = some v → Value.okWide Tryd.prog W .any base t v := hval0
  have hW' := hW
  obtain ⟨p, q, hA0, hV, rfl, hfz, hnd⟩ := hW
  have hA : DataW.TrodAll enc Tryd.prog W 0 (fun _ => true) true Tryd.f10.params.toList args.toList ds p := hA0
  rw [Tryd.params10] at hA hval
  obtain ⟨v0, v1, d0, d1, p0, p1, rfl, rfl, rfl, h0, h1⟩ := trodAll_two hA
  obtain ⟨rfl, rfl⟩ := trodVars_none hV
  obtain ⟨a, n, c, L, R, rfl, hr, _, _⟩ := irows_of_arg (hval 0 52 v0 rfl rfl) h0
  obtain ⟨pa, pn, pc, P, rfl, hp⟩ := irow_of_arg (hval 1 31 v1 rfl rfl) h1
  refine (tripBetter_any a n c L R pa pn pc P W (handle_of_laid hL) hr hp).mono fun e W' ⟨he, hb⟩ => ?_
  subst he
  exact ⟨_, rfl, law_post Tryd.laidOut (by kernel_rfl) rfl Tryd.underlying4 rfl hW' rfl hb⟩

theorem tripBetter_holds : Rows.TripBetterSaid :=
  OpenClaim.holds_of_wide 10 Tryd.f10 rfl rfl rfl rfl rfl rfl rfl ⟨rfl, rfl, rfl, rfl, rfl⟩ rfl rfl rfl rfl rfl (by kernel_rfl) Tryd.func10 (by kernel_rfl)
    (of_decide_eq_true (by kernel_rfl)) (by unfold Func.isWrapper; first | (rw [if_pos (by decide +kernel)]; kernel_rfl) | (rw [if_neg (by decide +kernel)]; exact ⟨rfl, rfl⟩))
    (fun os started H enc _ => tripBetter_lifted os started H enc)

theorem tripBetter_card_holds : Rows.TripBetterCardSaid :=
  Claim7.holds_tied_plain_at .later [] [.handle] true (true, "f28774754ee1511248d44b0d3fd48a17e350f5ae54575201e9986bd92daa3b24") true
    tripBetter_holds (fun _ h => by cases h) (by kernel_rfl) (fun _ h => by cases h) tripBetter_row_tie rfl ⟨rfl, rfl⟩ (by kernel_rfl) rfl
    (fun f fn hf hfn => by
      obtain rfl : f = 10 := Option.some.inj ((show Tryd.prog.funcNamed "foresight/foresightlaw.TripBetter" = some 10 by kernel_rfl).symm.trans hf) |>.symm
      obtain rfl : fn = Tryd.f10 := (Option.some.inj (Tryd.func10.symm.trans hfn)).symm
      exact ⟨by kernel_rfl, fun j t ht => by
        rw [Tryd.params10] at ht
        have hm : t ∈ [52, 31] := by simpa using Array.mem_of_getElem? ht
        have hall : ([52, 31].all fun u => !Tryd.prog.wantsStandIn u) = true := by kernel_rfl
        exact (show Tryd.prog.wantsStandIn t = false by simpa using List.all_eq_true.1 hall t hm)⟩)
    (by kernel_rfl)
#print axioms tripBetter_card_holds
end Go.Proofs.YtcmddkekidgkoaaDoor
