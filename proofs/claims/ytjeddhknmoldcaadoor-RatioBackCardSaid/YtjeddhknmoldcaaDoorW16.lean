/- A number's copy; its text. -/
import Derived.Test.YtjeddhknmoldcaaDoorW15
import Derived.Deep.AppendLies
namespace Go.Proofs.YtjeddhknmoldcaaDoor
open Go.RowKit Go.Sort Go.Shelf

/-- n words at the head of block g, which is a row of the call's own with room behind them perhaps. -/
def Head (w : World) (g n : Nat) (f : Nat → Int) : Prop := ∃ cur, w.heap[g]? = some (.cells cur 54 (0, 0)) ∧ ∀ j, j < n → cur[j]? = some (.int .u64 (f j))

def newsL (f : Nat → Int) (n : Nat) : List Value := (List.range n).map (fun j => .int .u64 (f j))
theorem newsL_length (f : Nat → Int) (n : Nat) : (newsL f n).length = n := by simp [newsL]
theorem newsL_get (f : Nat → Int) (n j : Nat) (v : Value) (h : (newsL f n)[j]? = some v) : j < n ∧ v = .int .u64 (f j) := by
  have hj : j < n := by
    have := (List.getElem?_eq_some_iff.1 h).1
    simpa [newsL] using this
  refine ⟨hj, ?_⟩
  simp [newsL, hj] at h
  exact h.symm

theorem head_of_owns {w : World} {base g n cap : Nat} {f : Nat → Int} (h : w.ownsRow base 54 1 (.slice (some ⟨g, 0, none⟩) n cap) n (newsL f n)) : Head w g n f ∧ base ≤ g ∧ n ≤ cap ∧ cap ≤ 9223372036854775807 := by
  obtain ⟨h1, h2⟩ := h
  rcases h2 with ⟨h2, _⟩ | ⟨g', cap', cur, hv, hb, hh, hn, hm, hs, ht⟩
  · cases h2
  · injection hv with e1 e2 e3
    injection e1 with e1
    injection e1 with e1
    subst e1; subst e3
    refine ⟨⟨cur, hh, fun j hj => ?_⟩, hb, hn, hm⟩
    have : (cur.toList.take (n * 1))[j]? = (newsL f n)[j]? := by rw [ht]
    rw [List.getElem?_take_of_lt (by omega)] at this
    simp [newsL, hj] at this
    simpa using this

theorem addr_add (b o j : Nat) : (⟨b, o, none⟩ : Addr).add j = ⟨b, o + j, none⟩ := by
  by_cases h : j = 0
  · subst h; simp [Addr.add]
  · simp [Addr.add, h]

set_option maxHeartbeats 1000000 in
set_option maxRecDepth 100000 in
theorem clone_pos (b o n c : Nat) (w : World) (f : Nat → Int) (hp : 0 < n) (hn : n ≤ 1099511627776) (hc : ∀ j, j < n → w.cell? ⟨b, o + j, none⟩ = some (.int .u64 (f j))) :
    Calls Tryd.prog 34 #[.slice (some ⟨b, o, none⟩) n c] w fun e w' => ∃ g cap, e = .returned (.slice (some ⟨g, 0, none⟩) n cap) ∧ Head w' g n f ∧ w.heap.size ≤ g ∧ n ≤ cap ∧ cap ≤ 9223372036854775807 ∧ Below w.heap.size w w' := by
  have q1 := fun (W : World) (a : Option Addr) (n c : Nat) => Lib.run_eql_slice_nil (P := Tryd.prog) W 25 54 a n c 0 0 Tryd.underlying25
  obtain ⟨i, hi, hz0, hz1, hz2⟩ := info_parts Tryd.info54
  have hblt : b < w.heap.size := World.block_lt_of_cell? _ ⟨b, o + 0, none⟩ (hc 0 hp)
  have hown : (w.alloc (.cells #[] 54)).ownsRow w.heap.size 54 1 (.slice (some ⟨w.heap.size, 0, none⟩) 0 0) 0 [] :=
    ⟨rfl, Or.inr ⟨w.heap.size, 0, #[], rfl, Nat.le_refl _, by show (w.heap.push _)[w.heap.size]? = _; simp, Nat.le_refl _, by decide, rfl, rfl⟩⟩
  have hnews : ∀ j u, (newsL f n)[j]? = some u → (w.alloc (.cells #[] 54)).cell? ((⟨b, o, none⟩ : Addr).add j) = some u := fun j u hu => by
    obtain ⟨hj, rfl⟩ := newsL_get _ _ _ _ hu
    rw [addr_add, (alloc_below w _).cell (p := ⟨b, o + j, none⟩) hblt]
    exact hc j hj
  have h1 : ∀ u ∈ newsL f n, u.oneCell' = true := fun u hu => by
    obtain ⟨j, hj⟩ := List.getElem?_of_mem hu
    obtain ⟨_, rfl⟩ := newsL_get _ _ _ _ hj
    rfl
  have HO := hide hown
  have HN := hide hnews
  have H1 := hide h1
  have H0 := hide hz0
  have HI := hide hi
  clear hc hown hnews h1 hz0 hi
  go_enter Tryd.func34, Tryd.ntmps34
  go_wp2_with (at_builtin; refine wpList_append_lies _ rfl _ _ _ rfl w.heap.size 54 i (.int .u64 0) 1 8 Tryd.underlying25 (unhide HI) (unhide H0) hz1 hz2 rfl (by omega) _ 0 [] rfl (unhide HO) ⟨b, o, none⟩ n c (newsL f n) rfl (by rw [newsL_length]; omega) (unhide HN) (unhide H1) hp (by unfold maxLen; omega) (by omega) (by simp) (w.heap.size + 1) (by simp) ?_; intro g cap w1 hown1 hgrow hat hlt)
  go_ret
  rw [Nat.zero_add, List.nil_append] at hown1
  have ⟨hh, hg, hnc, hcm⟩ := head_of_owns hown1
  refine ⟨g, cap, by rw [← Nat.zero_add n]; rfl, hh, hg, hnc, hcm, (alloc_below w _).trans (Below.grown (Below.refl _ _) hgrow (by simp) ?_)⟩
  intro k hk
  have : w.heap.size = k := Option.some.inj hk
  omega
end Go.Proofs.YtjeddhknmoldcaaDoor
