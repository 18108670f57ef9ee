/- For every four lists of numbers, the plan costs what it tells, no plan costs less, and an order is made only where nothing is left: the law returns true and leaves its arguments alone. No condition. -/
import Derived.Test.YtbbmhidnakghfaaG5
namespace Go.Proofs.Ytbbmhidnakghfaa
open Go.ChangeShapes Go.WideShapes Go.ChangeAt Go.RowKit Go.Joins

set_option maxRecDepth 100000 in
theorem lotsLeast_lifted (os : Os) (started : os.Started) (H : Type) (enc : TypeId × Value → H) :
    ReturnsInHanded {} Try.checked os 3 .any (Rows.lotsLeastSpec.pre6 enc Try.prog Try.f3 [] false) (Rows.lotsLeastSpec.post enc Try.prog Try.f3 false true false false) := by
  refine returnsInHanded_of_change (C := Try.checked) Try.own started (by kernel_rfl) Try.func3
    (ChangeSpec.witness6 (enc := enc) (C := Try.checked) false ⟨#[], #[.slice none 0 0, .slice none 0 0, .slice none 0 0, .slice none 0 0], []⟩ 8 (by kernel_rfl) (by kernel_rfl) (by kernel_rfl) (by kernel_rfl)) ?_
  intro W base args ds gs before hval0 hW _ _
  have hval : ∀ (j : Nat) t v, Try.f3.params[j]? = some t → args[j]? = some v → Value.okWide Try.prog W .any base t v := hval0
  have hW' := hW
  obtain ⟨p, q, hA0, hV, rfl, hfz, hnd⟩ := hW
  have hA : DataW.TrodAll enc Try.prog W 0 (fun _ => true) true Try.f3.params.toList args.toList ds p := hA0
  rw [Try.params3] at hA hval
  obtain ⟨v0, v1, v2, v3, d0, d1, d2, d3, p0, p1, p2, p3, rfl, rfl, rfl, h0, h1, h2, h3⟩ := trodAll_four hA
  obtain ⟨rfl, rfl⟩ := trodVars_none hV
  obtain ⟨wa, wn, wd, fW, rfl, hw⟩ := irow_of_arg (hval 0 22 v0 rfl rfl) h0
  obtain ⟨oa, om, od, fO, rfl, ho⟩ := irow_of_arg (hval 1 22 v1 rfl rfl) h1
  obtain ⟨ka, km, kd, fK, rfl, hk⟩ := irow_of_arg (hval 2 22 v2 rfl rfl) h2
  obtain ⟨a, len, c, q, rfl, ha⟩ := irow_of_arg (hval 3 22 v3 rfl rfl) h3
  refine (lotsLeast_any wa wn wd oa om od ka km kd fW fO fK a len c q W hw ho hk ha).mono fun e W' ⟨he, hb⟩ => ?_
  subst he
  exact ⟨_, rfl, law_post Try.laidOut (by kernel_rfl) rfl Try.underlying4 rfl hW' rfl hb⟩

theorem lotsLeast_holds : Rows.LotsLeastSaid :=
  OpenClaim.holds_of_wide 3 Try.f3 rfl rfl rfl rfl rfl rfl rfl ⟨rfl, rfl, rfl, rfl, rfl⟩ rfl rfl rfl rfl rfl (by kernel_rfl) Try.func3 (by kernel_rfl)
    (of_decide_eq_true (by kernel_rfl)) (by unfold Func.isWrapper; first | (rw [if_pos (by decide +kernel)]; kernel_rfl) | (rw [if_neg (by decide +kernel)]; exact ⟨rfl, rfl⟩))
    (fun os started H enc _ => lotsLeast_lifted os started H enc)
#print axioms lotsLeast_holds
end Go.Proofs.Ytbbmhidnakghfaa
