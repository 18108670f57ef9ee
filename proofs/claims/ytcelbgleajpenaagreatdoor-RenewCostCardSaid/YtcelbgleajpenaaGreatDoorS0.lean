/- Loads taken first, where what writes their cells waits for what waits for them. -/
import Derived.Test.YtcelbgleajpenaaGreatDoorA7
namespace Go.Proofs.YtcelbgleajpenaaGreatDoor
open Go.RowKit Go.Sort Go.Shelf

section
variable {P : Program} {ops : Array Oper} {Q : Exit → Act → World → Prop} {md : Region.Mode} {C : World → Prop} {st : Nat}

def freeB (md : Region.Mode) (ops : Array Oper) (listed : Array Bool) (Bl : List Nat) (i : Nat) : Bool := match ops[i]? with
 | none => false
 | some oi => (List.range ops.size).all fun j => match ops[j]? with
  | none => true
  | some oj => j == i || Bl.contains j || listed.getD j true || (oj.after.any fun e => Region.binds md e && e.on == i) || oi.apart ops oj

theorem wpTill_deep_first {i : Nat} {oi : Oper} {v : Value} {Bl : List Nat} (hi : ops[i]? = some oi) (hsel : ∀ (j : Nat) (o : Oper) cs b, ops[j]? = some o → o.op ≠ .select cs b)
  (hQ : ∀ c a w, Q (.panic c) (a.put oi.dst v) w → Q (.panic c) a w) (hB : ∀ b ∈ Bl, ∃ c, (c = i ∨ c ∈ Bl) ∧ waits md ops b c = true) (hst : st ∈ Bl) (hni : i ∉ Bl) :
  ∀ (fuel : Nat) (listed : Array Bool) (a : Act) (w : World),
   (∀ j oj, ops[j]? = some oj → j ≠ i → j ∉ Bl → listed.getD j true = false → (∀ e ∈ oj.after, Region.binds md e = true → e.on ≠ i) → oi.apart ops oj = true) →
   i ∈ Region.ready md ops listed → (∀ b ∈ Bl, listed.getD b true = false) → YieldsIf P ops C oi v a → C w →
   wpTill P md ops Q C st fuel (listed.setIfInBounds i true) (a.put oi.dst v) w → wpTill P md ops Q C st (fuel + 1) listed a w := by
 intro fuel
 induction fuel with
 | zero =>
  intro listed a w _ hr _ hy hC H
  refine ⟨fun h => (by rw [h] at hr; cases hr), fun j hj => ?_⟩
  rcases Decidable.em (j = i) with rfl | hji
  ·exact hy.wpOp hi hC ⟨fun _ => hC, H⟩
  ·have := ready_mono hj hji
   rw [H.1] at this
   cases this
 | succ fuel ih =>
  intro listed a w hfree hr hun hy hC H
  refine ⟨fun h => (by rw [h] at hr; cases hr), fun j hj => ?_⟩
  rcases Decidable.em (j = i) with rfl | hji
  ·exact hy.wpOp hi hC ⟨fun _ => hC, H⟩
  ·have hi0 := (mem_ready.1 hr).1
   have hjB : j ∉ Bl := fun e => by
    obtain ⟨c, hc, hw⟩ := hB j e
    rcases hc with rfl | hc
    ·exact not_ready_st hw hi0 hj
    ·exact not_ready_st hw (hun c hc) hj
   have hjst : j ≠ st := fun e => hjB (e ▸ hst)
   have hne : i ≠ st := fun e => hni (e ▸ hst)
   have h1 := H.2 j (ready_mono hj hji)
   obtain ⟨hjun, oj, hoj, hall⟩ := mem_ready.1 hj
   have hnot : ∀ e ∈ oj.after, Region.binds md e = true → e.on ≠ i := fun e he hb heq => by
    have h2 := hall e he hb
    rw [heq] at h2
    rcases Nat.lt_or_ge i listed.size with h' | h'
    ·simp [h'] at hi0 h2; rw [hi0] at h2; cases h2
    ·simp [Array.getElem?_eq_none h'] at h2
   have h2 := wpOp_putIf hoj (hfree j oj hoj hji hjB hjun hnot) (fun cs b => hsel i oi cs b hi) (fun cs b => hsel j oj cs b hoj) hQ hy h1
   have e1 : ∀ b ∈ Bl, (listed.setIfInBounds j true).getD b true = false := fun b hb => by
    have hjb : j ≠ b := fun e => hjB (by rw [e]; exact hb)
    rw [getD_set_ne true hjb]; exact hun b hb
   have e2 : ((listed.setIfInBounds i true).setIfInBounds j true).getD st true = false := by rw [getD_set_ne true hjst, getD_set_ne true hne]; exact hun st hst
   refine wpOp_mono (fun a' w' h3 => ?_) h2
   have hC' := h3.2.1 e2
   refine ⟨fun _ => hC', ih (listed.setIfInBounds j true) a' w' (fun k ok hk hki hkB hun' hno => ?_) (ready_mono hr (Ne.symm hji)) e1 h3.1 hC' ?_⟩
   ·refine hfree k ok hk hki hkB ?_ hno
    rcases Decidable.em (j = k) with rfl | hjk
    ·exact hjun
    ·rw [getD_set_ne true hjk] at hun'; exact hun'
   ·rw [Array.setIfInBounds_comm _ _ hji]
    exact h3.2.2

theorem wpTill_deep {i : Nat} {oi : Oper} {v : Value} {fuel : Nat} {listed : Array Bool} {a : Act} {w : World} (Bl : List Nat) (hi : ops[i]? = some oi)
  (hs : Region.noSelect ops = true) (hf : freeB md ops listed Bl i = true) (hr : (Region.ready md ops listed).contains i = true) (hB : (Bl.all fun b => (i :: Bl).any fun c => waits md ops b c) = true) (hst : Bl.contains st = true) (hni : Bl.contains i = false) (hun : (Bl.all fun b => listed.getD b true == false) = true)
  (hQ : ∀ c a w, Q (.panic c) (a.put oi.dst v) w → Q (.panic c) a w) (hy : YieldsIf P ops C oi v a) (hC : C w)
  (h : wpTill P md ops Q C st fuel (listed.setIfInBounds i true) (a.put oi.dst v) w) : wpTill P md ops Q C st (fuel + 1) listed a w := by
 refine wpTill_deep_first (Bl := Bl) hi (Region.noSelect_spec hs) hQ (fun b hb => ?_) (by simpa using hst) (by simpa using hni) fuel listed a w (fun j oj hj hji hjB hjl hno => ?_) (by simpa using hr) (fun b hb => ?_) hy hC h
 ·have h1 := List.all_eq_true.1 hB b hb
  obtain ⟨c, hc, hw⟩ := List.any_eq_true.1 h1
  exact ⟨c, by simpa using hc, hw⟩
 ·unfold freeB at hf
  rw [hi] at hf
  simp only at hf
  have hlt : j < ops.size := (Array.getElem?_eq_some_iff.1 hj).1
  have h1 := List.all_eq_true.1 hf j (List.mem_range.2 hlt)
  rw [hj] at h1
  simp only [Bool.or_eq_true] at h1
  rcases h1 with (((h1 | h1) | h1) | h1) | h1
  ·exact absurd (by simpa using h1) hji
  ·exact absurd (by simpa using h1) hjB
  ·rw [hjl] at h1; cases h1
  ·rw [Array.any_eq_true] at h1
   obtain ⟨k, hk, he⟩ := h1
   rw [Bool.and_eq_true, beq_iff_eq] at he
   exact absurd he.2 (hno _ (Array.getElem_mem hk) he.1)
  ·exact h1
 ·have := List.all_eq_true.1 hun b hb
  simpa using this
end
end Go.Proofs.YtcelbgleajpenaaGreatDoor
