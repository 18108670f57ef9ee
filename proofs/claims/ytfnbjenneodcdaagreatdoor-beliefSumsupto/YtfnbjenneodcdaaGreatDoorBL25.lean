/- Hidden states: Filter. -/
import Derived.Test.YtfnbjenneodcdaaGreatDoorBL24
namespace Go.Proofs.YtfnbjenneodcdaaGreatDoor
open Go.RowKit Go.Sort Go.Shelf

theorem sv_set (ps : List Sl) (j : Nat) (l : Sl) : sv (ps.set j l) = (sv ps).set j l.val := by unfold sv; rw [List.map_set]
/-- A row of the call's own rows is put in another's place. -/
theorem RsAt.put {w wr : World} {g n cap : Nat} {ps : List Sl} {ks ks' : List (List Rat)} (h : RsAt w wr (.slice (some ⟨g, 0, none⟩) n cap) ps ks) {j : Nat} (hj : j < ps.length) (l : Sl) (hl : LawIs wr l.val ks'[j]!) (hne : 0 < l.n → ∀ ad, l.a = some ad → some g ≠ some ad.block) (hk : ∀ i, i < ps.length → i ≠ j → ks'[i]! = ks[i]!) : RsAt w (wr.setCell ⟨g, j, none⟩ (.slice l.a l.n l.c)) (.slice (some ⟨g, 0, none⟩) n cap) (ps.set j l) ks' := by
  have hb := ownsS_block h.own g rfl
  have hset : ∀ i, (ps.set j l)[i]! = if j = i ∧ i < ps.length then l else ps[i]! := fun i => by
    rw [List.getElem!_eq_getElem?_getD, List.getElem?_set]
    by_cases e : j = i
    · subst e
      rw [if_pos rfl, if_pos hj, if_pos ⟨rfl, hj⟩]; rfl
    · rw [if_neg e, if_neg (fun x => e x.1), ← List.getElem!_eq_getElem?_getD]
  have far : ∀ (m : Sl) (q : List Rat), LawIs wr m.val q → (0 < m.n → ∀ ad, m.a = some ad → some g ≠ some ad.block) → LawIs (wr.setCell ⟨g, j, none⟩ (.slice l.a l.n l.c)) m.val q := fun m q hm hm2 => hm.far (grown_set wr g j _) (fun x e => h.no x e) hm2
  refine ⟨?_, fun x hx => ?_, fun i hi => ?_, fun i hi => ?_, h.bl.setCell (p := ⟨g, j, none⟩) hb.1 _⟩
  · refine ⟨by rw [sv_set, List.length_set, List.length_set]; exact h.own.1, ?_⟩
    rcases h.own.2 with ⟨h1, _⟩ | ⟨g', cap', cur, hv, hbg, hh, hr1, hr2, hr3, hr4⟩
    · cases h1
    · injection hv with e1 e2 e3
      injection e1 with e1
      injection e1 with e1
      subst e1
      refine Or.inr ⟨g, cap', cur.setIfInBounds j (.slice l.a l.n l.c), by rw [List.length_set, ← e2, e3], hbg, ?_, by rw [List.length_set]; exact hr1, hr2, by rw [Array.size_setIfInBounds]; exact hr3, ?_⟩
      · rw [setCell_eq_setRow wr g j cur _ (0, 0) _ hh]
        exact setRow_heap _ _ _ _ _ _ hh
      · rw [sv_set, List.length_set, Array.toList_setIfInBounds, List.take_set, hr4]; rfl
  · obtain rfl : g = x := Option.some.inj hx
    intro i k y e
    by_cases ei : i = j
    · subst ei
      have hc : (wr.setCell ⟨g, i, none⟩ (.slice l.a l.n l.c)).cell? ⟨g, i, none⟩ = some (.slice l.a l.n l.c) ∨ (wr.setCell ⟨g, i, none⟩ (.slice l.a l.n l.c)).cell? ⟨g, i, none⟩ = none := by
        rcases h.own.2 with ⟨h1, _⟩ | ⟨g', cap', cur, hv, hbg, hh, _⟩
        · cases h1
        · injection hv with e1
          injection e1 with e1
          injection e1 with e1
          subst e1
          rw [setCell_eq_setRow wr g i cur _ (0, 0) _ hh]
          have := setRow_heap wr g cur (cur.setIfInBounds i (.slice l.a l.n l.c)) _ _ hh
          simp only [World.cell?, this]
          rw [Array.getElem?_setIfInBounds]
          by_cases hz : i < cur.size
          · left; simp [hz]
          · right; simp [hz]
      rcases hc with hc | hc
      · rw [hc] at e; cases e
      · rw [hc] at e; cases e
    · refine h.no g rfl i k y ?_
      rw [← e]
      rcases h.own.2 with ⟨h1, _⟩ | ⟨g', cap', cur, hv, hbg, hh, _⟩
      · cases h1
      · injection hv with e1
        injection e1 with e1
        injection e1 with e1
        subst e1
        rw [setCell_eq_setRow wr g j cur _ (0, 0) _ hh]
        have := setRow_heap wr g cur (cur.setIfInBounds j (.slice l.a l.n l.c)) _ _ hh
        simp only [World.cell?, this, hh]
        rw [Array.getElem?_setIfInBounds, if_neg (Ne.symm ei)]
  · rw [List.length_set] at hi
    rw [hset i]
    by_cases e : j = i
    · rw [if_pos ⟨e, hi⟩, ← e]; exact far l _ hl hne
    · rw [if_neg (fun x => e x.1), hk i hi (Ne.symm e)]
      exact far _ _ (h.rat i hi) (h.ne i hi)
  · rw [List.length_set] at hi
    rw [hset i]
    show _ → ∀ ad : Addr, _ → some g ≠ some ad.block
    by_cases e : j = i
    · rw [if_pos ⟨e, hi⟩]; exact hne
    · rw [if_neg (fun x => e x.1)]; exact h.ne i hi

end Go.Proofs.YtfnbjenneodcdaaGreatDoor
