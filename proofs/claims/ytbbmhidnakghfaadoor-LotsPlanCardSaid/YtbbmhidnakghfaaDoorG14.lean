/- For every three lists of numbers, the plan and its cost are the best of all ways to part periods into runs, ties as told: the law returns true and leaves its arguments alone. Condition: errors.errorType starts as the program's text lays it (the card ties it). -/
import Derived.Test.YtbbmhidnakghfaaDoorG13
import Derived.Test.YtbbmhidnakghfaaDoorF4
import Derived.Test.YtbbmhidnakghfaaDoorTie
import Derived.Test.YtbbmhidnakghfaaDoorCards
import Derived.SevenTiedAt
namespace Go.Proofs.YtbbmhidnakghfaaDoor
open Go.ChangeShapes Go.WideShapes Go.ChangeAt Go.RowKit Go.Joins

set_option maxRecDepth 100000 in
theorem lotsPlan_lifted (os : Os) (started : os.Started) (H : Type) (enc : TypeId × Value → H) :
    ReturnsInHanded {} Tryd.checked os 4 .any (fun w args => (Rows.lotsPlanSpec.pre enc Tryd.prog Tryd.f4 [] false w args ∧ laidMetH Tryd.prog laid1 w) ∧ sizedMet enc Tryd.prog Tryd.f4 (OpenSpec.ofChange Rows.lotsPlanSpec) false w args)
      (Rows.lotsPlanSpec.post enc Tryd.prog Tryd.f4 false true false false) := by
  refine returnsInHanded_of_change_and (C := Tryd.checked) (X := fun w _ => laidMetH Tryd.prog laid1 w) (fun _ _ _ hh h => h.of_heap hh) Tryd.own started (by kernel_rfl) Tryd.func4
    (ChangeSpec.witness_shaped (enc := enc) (C := Tryd.checked) (os := os) (X := fun w _ => laidMetH Tryd.prog laid1 w) false (World.doorLaid Tryd.prog 400 os) #[.slice none 0 0, .slice none 0 0, .slice none 0 0] 8 rfl (World.shaped_of_RefB (by kernel_rfl) (by kernel_rfl)) (by kernel_rfl) (by kernel_rfl) (by kernel_rfl) (door_met os _)) ?_
  intro W base args ds gs before hval0 hW _ _ hL _
  have hval : ∀ (j : Nat) t v, Tryd.f4.params[j]? = some t → args[j]? = some v → Value.okWide Tryd.prog W .any base t v := hval0
  have hW' := hW
  obtain ⟨p, q, hA0, hV, rfl, hfz, hnd⟩ := hW
  have hA : DataW.TrodAll enc Tryd.prog W 0 (fun _ => true) true Tryd.f4.params.toList args.toList ds p := hA0
  rw [Tryd.params4] at hA hval
  obtain ⟨v0, v1, v2, d0, d1, d2, p0, p1, p2, rfl, rfl, rfl, h0, h1, h2⟩ := trodAll_three hA
  obtain ⟨rfl, rfl⟩ := trodVars_none hV
  obtain ⟨wa, wn, wd, fW, rfl, hw⟩ := irow_of_arg (hval 0 22 v0 rfl rfl) h0
  obtain ⟨oa, om, od, fO, rfl, ho⟩ := irow_of_arg (hval 1 22 v1 rfl rfl) h1
  obtain ⟨ka, km, kd, fK, rfl, hk⟩ := irow_of_arg (hval 2 22 v2 rfl rfl) h2
  refine (lotsPlan_any wa wn wd oa om od ka km kd fW fO fK W (handle_of_laid hL) hw ho hk).mono fun e W' ⟨he, hb⟩ => ?_
  subst he
  exact ⟨_, rfl, law_post Tryd.laidOut (by kernel_rfl) rfl Tryd.underlying4 rfl hW' rfl hb⟩

theorem lotsPlan_holds : Rows.LotsPlanSaid :=
  OpenClaim.holds_of_wide 4 Tryd.f4 rfl rfl rfl rfl rfl rfl rfl ⟨rfl, rfl, rfl, rfl, rfl⟩ rfl rfl rfl rfl rfl (by kernel_rfl) Tryd.func4 (by kernel_rfl)
    (of_decide_eq_true (by kernel_rfl)) (by unfold Func.isWrapper; first | (rw [if_pos (by decide +kernel)]; kernel_rfl) | (rw [if_neg (by decide +kernel)]; exact ⟨rfl, rfl⟩))
    (fun os started H enc _ => lotsPlan_lifted os started H enc)

theorem lotsPlan_card_holds : Rows.LotsPlanCardSaid :=
  Claim7.holds_tied_plain_at .later [] [.handle] true (true, "6bb86191d434a3e2131c5fa1c8707845e5eb3f45b0f46ea333927d7fdc908ddb") true
    lotsPlan_holds (fun _ h => by cases h) (by kernel_rfl) (fun _ h => by cases h) lotsPlan_row_tie rfl ⟨rfl, rfl⟩ (by kernel_rfl) rfl
    (fun f fn hf hfn => by
      obtain rfl : f = 4 := Option.some.inj ((show Tryd.prog.funcNamed "foresight/foresightlaw.LotsPlan" = some 4 by kernel_rfl).symm.trans hf) |>.symm
      obtain rfl : fn = Tryd.f4 := (Option.some.inj (Tryd.func4.symm.trans hfn)).symm
      exact ⟨by kernel_rfl, fun j t ht => by
        rw [Tryd.params4] at ht
        have hm : t ∈ [22, 22, 22] := by simpa using Array.mem_of_getElem? ht
        have hall : ([22, 22, 22].all fun u => !Tryd.prog.wantsStandIn u) = true := by kernel_rfl
        exact (show Tryd.prog.wantsStandIn t = false by simpa using List.all_eq_true.1 hall t hm)⟩)
    (by kernel_rfl)
#print axioms lotsPlan_card_holds
end Go.Proofs.YtbbmhidnakghfaaDoor
