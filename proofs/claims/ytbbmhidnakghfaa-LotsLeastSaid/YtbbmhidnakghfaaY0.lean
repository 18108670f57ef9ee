/- Comparing; rows that come in; rows that are shuffled; how a row is sorted. -/
import Derived.Test.YtbbmhidnakghfaaJ5
import Derived.Test.YtbbmhidnakghfaaL6
namespace Go.Proofs.Ytbbmhidnakghfaa
open Go.RowKit Go.Sort Go.ChangeShapes Go.WideShapes Go.ChangeAt Go.Joins Stb

def cmpI (x y : Int) : Int := if x < y then -1 else if y < x then 1 else 0
theorem cmpI_lt {x y : Int} : cmpI x y < 0 ↔ x < y := by unfold cmpI; split <;> (try split) <;> omega
set_option maxHeartbeats 1000000 in
theorem nan_any (x : Int) (w : World) : Calls Try.prog 23 #[.int .i64 x] w fun e w' => e = .returned (.bool false) ∧ w' = w := by
  have e0 : (x == x) = true := by simp
  go_enter Try.func23, Try.ntmps23
  go_wp2
  go_ret
  exact ⟨rfl, rfl⟩
set_option maxHeartbeats 1000000 in
theorem compare_any (x y : Int) (w : World) : Calls Try.prog 18 #[.int .i64 x, .int .i64 y] w fun e w' => e = .returned (.int .i64 (cmpI x y)) ∧ w' = w := by
  have H1 := hide (nan_any x w)
  have H2 := hide (nan_any y w)
  by_cases h1 : x < y
  · rw [show cmpI x y = -1 by unfold cmpI; rw [if_pos h1]]
    go_enter Try.func18, Try.ntmps18
    go_wp2_with fail
    refine (unhide H1).mono ?_
    rintro e w' ⟨rfl, rfl⟩
    go_wp2_with fail
    refine (unhide H2).mono ?_
    rintro e w' ⟨rfl, rfl⟩
    go_wp2
    go_ret
    exact ⟨rfl, rfl⟩
  · by_cases h2 : y < x
    · rw [show cmpI x y = 1 by unfold cmpI; rw [if_neg h1, if_pos h2]]
      go_enter Try.func18, Try.ntmps18
      go_wp2_with fail
      refine (unhide H1).mono ?_
      rintro e w' ⟨rfl, rfl⟩
      go_wp2_with fail
      refine (unhide H2).mono ?_
      rintro e w' ⟨rfl, rfl⟩
      go_wp2
      go_ret
      exact ⟨rfl, rfl⟩
    · rw [show cmpI x y = 0 by unfold cmpI; rw [if_neg h1, if_neg h2]]
      go_enter Try.func18, Try.ntmps18
      go_wp2_with fail
      refine (unhide H1).mono ?_
      rintro e w' ⟨rfl, rfl⟩
      go_wp2_with fail
      refine (unhide H2).mono ?_
      rintro e w' ⟨rfl, rfl⟩
      go_wp2
      go_ret
      exact ⟨rfl, rfl⟩
theorem id_stl (lt : Nat → Nat → Bool) (n : Nat) : Stl lt id 0 n := fun _ _ _ h2 _ h4 => Or.inr ⟨h4, h2⟩
set_option maxRecDepth 100000 in
/-- A row of ints that came in. -/
theorem irow_of_arg {H : Type} {enc : TypeId × Value → H} {W : World} {base : Nat} {v : Value} {d : DataW H} {p : List MemPlace} (hval : Value.okWide Try.prog W .any base 22 v) (h : DataW.Trod enc Try.prog W 0 (fun _ => true) true 22 v d p) : ∃ a n c f, v = .slice a n c ∧ IRow W a n c f := by
  obtain ⟨a0, len, cap, rfl⟩ := okWide_slice Try.underlying22 hval
  obtain ⟨fuel, hf⟩ := h
  rcases open_ints Try.underlying22 Try.underlying3 Try.cellsI hf with ⟨hcs, hx⟩ | ⟨a, len', cap', zs, hcs, hb, hl, hm, hz, hx, hcell, hwz⟩
  · have e : Value.slice a0 len cap = .slice none 0 0 := by simpa [Value.cells] using hcs
    exact ⟨a0, len, cap, fun _ => 0, rfl, by injection e with e1 e2 e3; omega, by injection e with e1 e2 e3; omega, fun h => by injection e with e1 e2 e3; omega⟩
  · have e : Value.slice a0 len cap = .slice (some a) len' cap' := by simpa [Value.cells] using hcs
    injection e with e1 e2 e3
    subst e1 e2 e3
    simp only [if_true] at hz
    refine ⟨_, len, cap, fun j => zs.getD j 0, rfl, hl, by unfold maxLen at hm; exact hm, fun hp => ?_⟩
    obtain ⟨b, off, rfl, hc⟩ := ints_at hcell (by omega)
    refine ⟨b, off, rfl, ?_, fun j hj => hc j (by omega)⟩
    exact World.block_lt_of_cell? W ⟨b, off + 0, none⟩ (hc 0 (by omega))
def nI (g : Nat → Nat) : Nat → Int := fun i => ((g i : Nat) : Int)
theorem goodR_re {n : Nat} {g : Nat → Nat} (h : Re 0 n id g) : GoodR n (nI g) := by
  refine ⟨fun i hi => ?_, fun i j hi hj e => ?_⟩
  · have := h.lt (Nat.le_refl _) (fun i hi => hi) i hi
    unfold nI
    omega
  · unfold nI at e
    exact h.inj (Nat.le_refl _) (fun i j _ _ e => e) i j hi hj (by omega)
theorem rl_nI (g : Nat → Nat) (n : Nat) : rl (nI g) n = (List.range n).map g := by
  unfold rl nI
  exact List.map_congr_left fun j _ => by simp
theorem pair_map {n : Nat} {g : Nat → Nat} {R : Nat → Nat → Prop} (h : ∀ p q, p < q → q < n → R (g p) (g q)) : ((List.range n).map g).Pairwise R := by
  rw [List.pairwise_map]
  exact (List.pairwise_lt_range (n := n)).imp_of_mem fun {a b} _ hb hab => h a b hab (List.mem_range.1 hb)
theorem lo_not {n : Nat} {lt : Nat → Nat → Bool} (W : Wo n lt) {x y : Nat} (hx : x < n) (hy : y < n) (h : Lo lt x y) : lt y x = false := by
  rcases h with h | h
  · exact W.asym x y hx hy h
  · exact h.1
/-- A row of the call's own, by g. -/
structure Sh (w0 : World) (g n : Nat) (f : Nat → Nat) (w : World) : Prop where
  own : OwnI w g n (fun i => ((f i : Nat) : Int))
  bl : Below w0.heap.size w0 w
theorem Sh.keep {w0 : World} {g n : Nat} {f : Nat → Nat} {w w' : World} (h : Sh w0 g n f w) (hb : Below w.heap.size w w') : Sh w0 g n f w' := ⟨h.own.keep hb, below_step h.bl hb⟩
theorem swp_ints' (f : Nat → Nat) (a b : Nat) : updI (updI (fun i => ((f i : Nat) : Int)) a (f b)) b (f a) = fun i => ((Stb.swp f a b i : Nat) : Int) := by
  by_cases h : a = b
  · subst h
    funext i
    unfold updI Stb.swp
    by_cases h1 : i = a
    · rw [if_pos h1, if_pos h1]
    · rw [if_neg h1, if_neg h1, if_neg h1, if_neg h1]
  · exact swp_ints f h
theorem Sh.swap {w0 : World} {g n : Nat} (hge : w0.heap.size ≤ g) {f : Nat → Nat} {w : World} (h : Sh w0 g n f w) (x y : Nat) :
    Sh w0 g n (swp f x y) ((w.setCell ⟨g, x, none⟩ (.int .i64 (f y : Int))).setCell ⟨g, y, none⟩ (.int .i64 (f x : Int))) := by
  have o1 := h.own.set x (f y : Int)
  have b1 := h.bl.setCell (p := ⟨g, x, none⟩) hge (.int .i64 (f y : Int))
  have o2 := o1.set y (f x : Int)
  have b2 := b1.setCell (p := ⟨g, y, none⟩) hge (.int .i64 (f x : Int))
  rw [swp_ints'] at o2
  exact ⟨o2, b2⟩
def ShPost (w : World) (n : Nat) (e : Ending) (w' : World) : Prop := ∃ (G : Nat) (g : Nat → Nat), w.heap.size ≤ G ∧ e = .returned (.slice (some ⟨G, 0, none⟩) n n) ∧ OwnI w' G n (nI g) ∧ Re 0 n id g ∧ Below w.heap.size w w'
end Go.Proofs.Ytbbmhidnakghfaa
