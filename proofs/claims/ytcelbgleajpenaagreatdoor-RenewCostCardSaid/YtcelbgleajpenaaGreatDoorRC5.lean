/- For every row of pairs, every two pairs and every number: what it costs to replace at an age, and the best age, or the error, is the document's (of up to twenty pairs, and of more than can be a law; between, the law asks nothing): the law returns true and leaves its arguments alone. Condition: the four listed variables of the library start as the program's start leaves them. -/
import Derived.Test.YtcelbgleajpenaaGreatDoorRC4
import Derived.Test.YtcelbgleajpenaaGreatDoorF2
import Derived.Test.YtcelbgleajpenaaGreatDoorTie
import Derived.Test.YtcelbgleajpenaaGreatDoorCards
import Derived.SevenTiedAt
namespace Go.Proofs.YtcelbgleajpenaaGreatDoor
open Go.ChangeShapes Go.WideShapes Go.ChangeAt Go.RowKit Go.Joins

set_option maxRecDepth 100000 in
theorem renewCost_lifted (os : Os) (started : os.Started) (H : Type) (enc : TypeId × Value → H) :
  ReturnsInHanded {} Tryz.checked os 8 .any (fun w args => (Rows.renewCostSpec.pre enc Tryz.prog Tryz.f8 [] false w args ∧ laidMetH Tryz.prog laid4 w) ∧ sizedMet enc Tryz.prog Tryz.f8 (OpenSpec.ofChange Rows.renewCostSpec) false w args)
   (Rows.renewCostSpec.post enc Tryz.prog Tryz.f8 false true false false) := by
 refine returnsInHanded_of_change_and (C := Tryz.checked) (X := fun w _ => laidMetH Tryz.prog laid4 w) (fun _ _ _ hh h => h.of_heap hh) Tryz.own started (by kernel_rfl) Tryz.func8
  (ChangeSpec.witness_shaped (enc := enc) (C := Tryz.checked) (os := os) (X := fun w _ => laidMetH Tryz.prog laid4 w) false (World.doorLaid Tryz.prog 400 os) #[.slice none 0 0, .agg #[.int .i64 0, .int .i64 0], .agg #[.int .i64 0, .int .i64 0], .int .i64 0] 8 rfl (World.shaped_of_RefB (by kernel_rfl) (by kernel_rfl)) (by kernel_rfl) (by kernel_rfl) (by kernel_rfl) (door_met4 os _)) ?_
 intro W base args ds gs before hval0 hW _ _ hL _
 have hval : ∀ (j : Nat) t v, Tryz.f8.params[j]? = some t → args[j]? = some v → Value.okWide Tryz.prog W .any base t v := hval0
 have hW' := hW
 obtain ⟨p, q, hA0, hV, rfl, hfz, hnd⟩ := hW
 have hA : DataW.TrodAll enc Tryz.prog W 0 (fun _ => true) true Tryz.f8.params.toList args.toList ds p := hA0
 rw [Tryz.params8] at hA hval
 obtain ⟨v0, v1, v2, v3, d0, d1, d2, d3, p0, p1, p2, p3, rfl, rfl, rfl, h0, h1, h2, h3⟩ := trodAll_four hA
 obtain ⟨rfl, rfl⟩ := trodVars_none hV
 obtain ⟨ps, hp⟩ := pairs_of_arg (hval 0 23 v0 rfl rfl) h0
 obtain ⟨x, y, rfl, hx, hy⟩ := pair_of_arg (hval 1 51 v1 rfl rfl) h1
 obtain ⟨z, u, rfl, hz, hu⟩ := pair_of_arg (hval 2 51 v2 rfl rfl) h2
 obtain ⟨ot, rfl, rfl, rfl, wx⟩ := open_int Tryz.underlying3 (hval 3 3 v3 rfl rfl) h3
 refine (renewCost_any v0 ps x y z u ot W (tab_of_laid4 hL) (err_of_laid4 hL) hp hx hy hz hu).mono fun e W' ⟨he, hb⟩ => ?_
 subst he
 exact ⟨_, rfl, law_post Tryz.laidOut (by kernel_rfl) rfl Tryz.underlying4 rfl hW' rfl hb⟩

theorem renewCost_holds : Rows.RenewCostSaid :=
 OpenClaim.holds_of_wide 8 Tryz.f8 rfl rfl rfl rfl rfl rfl rfl ⟨rfl, rfl, rfl, rfl, rfl⟩ rfl rfl rfl rfl rfl (by kernel_rfl) Tryz.func8 (by kernel_rfl)
  (of_decide_eq_true (by kernel_rfl)) (by unfold Func.isWrapper; first | (rw [if_pos (by decide +kernel)]; kernel_rfl) | (rw [if_neg (by decide +kernel)]; exact ⟨rfl, rfl⟩))
  (fun os started H enc _ => renewCost_lifted os started H enc)

theorem renewCost_card_holds : Rows.RenewCostCardSaid :=
 Claim7.holds_tied_plain_at .later [] [.data, .data, .data, .handle] true (true, "373c16ae85f579e743a40e85d2f93b69b39aee67e913b7e4b0ecc494d631aefa") true
  renewCost_holds (fun _ h => by cases h) (by kernel_rfl) (fun _ h => by cases h) renewCost_row_tie rfl ⟨rfl, rfl⟩ (by kernel_rfl) rfl
  (fun f fn hf hfn => by
   obtain rfl : f = 8 := Option.some.inj ((show Tryz.prog.funcNamed "foresight/foresightlaw.RenewCost" = some 8 by kernel_rfl).symm.trans hf) |>.symm
   obtain rfl : fn = Tryz.f8 := (Option.some.inj (Tryz.func8.symm.trans hfn)).symm
   exact ⟨by kernel_rfl, fun j t ht => by
    rw [Tryz.params8] at ht
    have hm : t ∈ [23, 51, 51, 3] := by simpa using Array.mem_of_getElem? ht
    have hall : ([23, 51, 51, 3].all fun u => !Tryz.prog.wantsStandIn u) = true := by kernel_rfl
    exact (show Tryz.prog.wantsStandIn t = false by simpa using List.all_eq_true.1 hall t hm)⟩)
  (by kernel_rfl)
#print axioms renewCost_card_holds
end Go.Proofs.YtcelbgleajpenaaGreatDoor
