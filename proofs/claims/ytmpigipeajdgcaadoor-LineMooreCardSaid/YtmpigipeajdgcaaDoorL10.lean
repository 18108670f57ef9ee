/- What the laws begin with; orders that come of others; what rows cost. -/
import Derived.Test.YtmpigipeajdgcaaDoorL9
namespace Go.Proofs.YtmpigipeajdgcaaDoor
open Go.RowKit Go.Sort Go.ChangeShapes Go.WideShapes Go.ChangeAt Go.Joins Stb

set_option maxRecDepth 100000 in
/-- A row of ints that came in. -/
theorem irow_of_arg {H : Type} {enc : TypeId × Value → H} {W : World} {base : Nat} {v : Value} {d : DataW H} {p : List MemPlace} (hval : Value.okWide Tryd.prog W .any base 23 v) (h : DataW.Trod enc Tryd.prog W 0 (fun _ => true) true 23 v d p) : ∃ a n c f, v = .slice a n c ∧ IRow W a n c f := by
  obtain ⟨a0, len, cap, rfl⟩ := okWide_slice Tryd.underlying23 hval
  obtain ⟨fuel, hf⟩ := h
  rcases open_ints Tryd.underlying23 Tryd.underlying3 Tryd.cellsI hf with ⟨hcs, hx⟩ | ⟨a, len', cap', zs, hcs, hb, hl, hm, hz, hx, hcell, hwz⟩
  · have e : Value.slice a0 len cap = .slice none 0 0 := by simpa [Value.cells] using hcs
    exact ⟨a0, len, cap, fun _ => 0, rfl, by injection e with e1 e2 e3; omega, by injection e with e1 e2 e3; omega, fun h => by injection e with e1 e2 e3; omega⟩
  · have e : Value.slice a0 len cap = .slice (some a) len' cap' := by simpa [Value.cells] using hcs
    injection e with e1 e2 e3
    subst e1 e2 e3
    simp only [if_true] at hz
    refine ⟨_, len, cap, fun j => zs.getD j 0, rfl, hl, by unfold maxLen at hm; exact hm, fun hp => ?_⟩
    obtain ⟨b, off, rfl, hc⟩ := ints_at hcell (by omega)
    refine ⟨b, off, rfl, ?_, fun j hj => hc j (by omega)⟩
    exact World.block_lt_of_cell? W ⟨b, off + 0, none⟩ (hc 0 (by omega))


def nI (g : Nat → Nat) : Nat → Int := fun i => ((g i : Nat) : Int)
theorem goodR_re {n : Nat} {g : Nat → Nat} (h : Re 0 n id g) : GoodR n (nI g) := by
  refine ⟨fun i hi => ?_, fun i j hi hj e => ?_⟩
  · have := h.lt (Nat.le_refl _) (fun i hi => hi) i hi
    unfold nI
    omega
  · unfold nI at e
    exact h.inj (Nat.le_refl _) (fun i j _ _ e => e) i j hi hj (by omega)
theorem ecode_re {n : Nat} {f : Nat → T3} {g : Nat → Nat} (ht : tcode n f = 0) (h : Re 0 n id g) : ecode n f (nI g) n = 0 := by
  unfold ecode
  rw [if_neg (by rw [ht]; decide)]
  unfold ocode
  rw [if_neg (by simp)]
  exact oc_of_good (goodR_re h) n (Nat.le_refl _)
theorem rl_nI (g : Nat → Nat) (n : Nat) : rl (nI g) n = (List.range n).map g := by
  unfold rl nI
  exact List.map_congr_left fun j _ => by simp
theorem pair_map {n : Nat} {g : Nat → Nat} {R : Nat → Nat → Prop} (h : ∀ p q, p < q → q < n → R (g p) (g q)) : ((List.range n).map g).Pairwise R := by
  rw [List.pairwise_map]
  exact (List.pairwise_lt_range (n := n)).imp_of_mem fun {a b} _ hb hab => h a b hab (List.mem_range.1 hb)
theorem cost_lin {n : Nat} {f : Nat → T3} {r : Nat → Int} (h : GoodR n r) : costV f r n = Lin.lsum (fun x => wT f x.1 * x.2) (Lin.ends (pT f) 0 (rl r n)) := Lin.ssum_ends (pT f) (rl_perm h) (fun i t => wT f i * t)
theorem tardy_lin {n : Nat} {f : Nat → T3} {r : Nat → Int} (h : GoodR n r) : tardyV f r n = Lin.lsum (Lin.isLate (dT f)) (Lin.ends (pT f) 0 (rl r n)) := Lin.ssum_ends (pT f) (rl_perm h) (fun i t => if dT f i < t then 1 else 0)
theorem mxs_ge (g : Nat → Int) : ∀ k i, i < k → g i ≤ mxs g k
  | k + 1, i, h => by
    show g i ≤ max (mxs g k) (g k)
    rcases Nat.lt_or_ge i k with c | c
    · have := mxs_ge g k i c; omega
    · rw [show i = k by omega]; omega
theorem mxs_le (g : Nat → Int) {M : Int} (h0 : g 0 ≤ M) : ∀ k, (∀ i, i < k → g i ≤ M) → mxs g k ≤ M
  | 0, _ => h0
  | k + 1, h => by
    have h1 := mxs_le g h0 k (fun i hi => h i (by omega))
    have h2 := h k (by omega)
    show max (mxs g k) (g k) ≤ M
    omega
theorem allC_ends {n : Nat} {f : Nat → T3} {r : Nat → Int} (h : GoodR n r) {c : Nat → Int → Int} {M : Int} : Lin.AllC c M (Lin.ends (pT f) 0 (rl r n)) ↔ ∀ i, i < n → c i (endR f r n i) ≤ M := by
  have hp := Lin.pairs_perm (pT f) (rl_perm h) 0
  constructor
  · intro hA i hi
    exact hA (i, endR f r n i) (hp.subset (List.mem_map.2 ⟨i, List.mem_range.2 hi, rfl⟩))
  · intro hA x hx
    obtain ⟨i, h1, h2⟩ := List.mem_map.1 (hp.symm.subset hx)
    rw [← h2]
    exact hA i (List.mem_range.1 h1)
theorem late_lin {n : Nat} {f : Nat → T3} {r : Nat → Int} (h : GoodR n r) (hn : 0 < n) {M : Int} : Lin.AllC (Lin.lat (dT f)) M (Lin.ends (pT f) 0 (rl r n)) ↔ lateV f r n ≤ M := by
  rw [allC_ends h]
  unfold lateV
  rw [if_neg (by omega)]
  constructor
  · intro hA
    exact mxs_le _ (hA 0 hn) n hA
  · intro hA i hi
    exact Int.le_trans (mxs_ge (fun i => endR f r n i - dT f i) n i hi) hA
theorem pT_nonneg {n : Nat} {f : Nat → T3} {r : Nat → Int} (hT : GoodT n f) (h : GoodR n r) : ∀ x ∈ rl r n, 0 ≤ pT f x := fun x hx => (hT.p x (List.mem_range.1 ((rl_perm h).subset hx))).1
theorem lo_not {n : Nat} {lt : Nat → Nat → Bool} (W : Wo n lt) {x y : Nat} (hx : x < n) (hy : y < n) (h : Lo lt x y) : lt y x = false := by
  rcases h with h | h
  · exact W.asym x y hx hy h
  · exact h.1
/-- Smith's row costs no more than another. -/
theorem smith_least {n : Nat} {f : Nat → T3} {g s : Nat → Nat} (hT : GoodT n f) (hg : Re 0 n id g) (hs : Re 0 n id s) (hsr : Sr (ltc (fun i k => scmp (f i) (f k))) g 0 n) : costV f (nI g) n ≤ costV f (nI s) n := by
  rw [cost_lin (goodR_re hg), cost_lin (goodR_re hs)]
  have hlt := hg.lt (Nat.le_refl _) (fun i hi => hi)
  refine Lin.smith (pT f) (wT f) _ _ 0 ((rl_perm (goodR_re hg)).trans (rl_perm (goodR_re hs)).symm) ?_
  rw [rl_nI]
  refine pair_map fun p q hpq hq => ?_
  have h1 := lo_not (wo_s hT) (hlt p (by omega)) (hlt q hq) (hsr p q (Nat.zero_le _) hpq hq)
  have h2 : sle (f (g p)) (f (g q)) := by rw [← scmp_lt]; unfold ltc at h1; simpa using h1
  have p1 := hT.p (g p) (hlt p (by omega))
  have p2 := hT.p (g q) (hlt q hq)
  have w1 := hT.w (g p) (hlt p (by omega))
  have w2 := hT.w (g q) (hlt q hq)
  unfold pT wT
  unfold sle at h2
  by_cases c : (f (g p)).1 = 0 ∨ (f (g q)).1 = 0
  · rw [if_pos c] at h2
    rw [show (f (g p)).1 = 0 by omega, Int.zero_mul]
    exact Int.mul_nonneg p2.1 w1.1
  · rw [if_neg c] at h2
    rw [Int.mul_comm, Int.mul_comm (f (g q)).1]
    exact h2
theorem jack_pair {n : Nat} {f : Nat → T3} {g : Nat → Nat} (hg : Re 0 n id g) (hsr : Sr (ltc (fun i k => jcmp (f i) (f k))) g 0 n) : ((List.range n).map g).Pairwise (fun x y => dT f x ≤ dT f y) := by
  have hlt := hg.lt (Nat.le_refl _) (fun i hi => hi)
  refine pair_map fun p q hpq hq => ?_
  have h1 := lo_not (n := n) wo_j (hlt p (by omega)) (hlt q hq) (hsr p q (Nat.zero_le _) hpq hq)
  unfold ltc jcmp at h1
  have h2 := of_decide_eq_false h1
  rw [cmpI_lt] at h2
  unfold dT
  omega
/-- Jackson's row is no later than another. -/
theorem jackson_least {n : Nat} {f : Nat → T3} {g s : Nat → Nat} (hT : GoodT n f) (hg : Re 0 n id g) (hs : Re 0 n id s) (hsr : Sr (ltc (fun i k => jcmp (f i) (f k))) g 0 n) : lateV f (nI g) n ≤ lateV f (nI s) n := by
  by_cases hn : n = 0
  · subst hn; exact Int.le_refl _
  · have hn' : 0 < n := by omega
    rw [← late_lin (goodR_re hg) hn']
    refine Lin.jackson (pT f) (dT f) _ (rl (nI s) n) 0 ((rl_perm (goodR_re hg)).trans (rl_perm (goodR_re hs)).symm) (pT_nonneg hT (goodR_re hs)) ?_ ((late_lin (goodR_re hs) hn').2 (Int.le_refl _))
    rw [rl_nI]
    exact jack_pair hg hsr

/-- The fact's two tasks. -/
def twoT (i : Nat) : T3 := if i = 0 then (1, 1, 2) else (1, 3, 1)
theorem twoT_good : tcode 2 twoT = 0 := by decide
theorem twoT_row {w w' : World} {T : TypeId} (h : Below (w.alloc (.cells #[.int .i64 1, .int .i64 1, .int .i64 2, .int .i64 1, .int .i64 3, .int .i64 1] T)).heap.size (w.alloc (.cells #[.int .i64 1, .int .i64 1, .int .i64 2, .int .i64 1, .int .i64 3, .int .i64 1] T)) w') : TRow w' (some ⟨w.heap.size, 0, none⟩) 2 2 twoT := by
  have hs := alloc_size w (.cells #[.int .i64 1, .int .i64 1, .int .i64 2, .int .i64 1, .int .i64 3, .int .i64 1] T)
  refine ⟨Nat.le_refl _, by decide, fun _ => ⟨w.heap.size, 0, rfl, by have := h.size; omega, fun j hj => ?_⟩⟩
  have c : ∀ i, w'.cell? ⟨w.heap.size, i, none⟩ = (#[Value.int .i64 1, .int .i64 1, .int .i64 2, .int .i64 1, .int .i64 3, .int .i64 1] : Array Value)[i]? := fun i => by
    rw [h.cell (p := ⟨w.heap.size, i, none⟩) (by show w.heap.size < _; omega)]
    simp only [World.cell?, heap_alloc_new]
    rfl
  simp only [c]
  obtain rfl | rfl : j = 0 ∨ j = 1 := by omega
  · exact ⟨rfl, rfl, rfl⟩
  · exact ⟨rfl, rfl, rfl⟩
theorem twoT_sorted {g : Nat → Nat} (hg : Re 0 2 id g) (hsr : Sr (ltc (fun i k => scmp (twoT i) (twoT k))) g 0 2) : g 0 = 1 ∧ g 1 = 0 := by
  have hlt := hg.lt (Nat.le_refl _) (fun i hi => hi)
  have h0 := hlt 0 (by decide)
  have h1 := hlt 1 (by decide)
  have hne : g 0 ≠ g 1 := fun e => by have := hg.inj (Nat.le_refl 2) (fun i j _ _ e => e) 0 1 (by decide) (by decide) e; omega
  have h2 := lo_not (wo_s (goodT_of twoT_good)) h0 h1 (hsr 0 1 (Nat.le_refl _) (by decide) (by decide))
  by_cases c : g 0 = 0
  · have c1 : g 1 = 1 := by omega
    rw [c, c1] at h2
    exact absurd h2 (by decide)
  · exact ⟨by omega, by omega⟩
theorem twoT_cost {g : Nat → Nat} (h : g 0 = 1 ∧ g 1 = 0) : costV twoT (nI g) 2 = 5 := by
  have e : rl (nI g) 2 = [1, 0] := by
    rw [rl_nI]
    show [g 0, g 1] = _
    rw [h.1, h.2]
  unfold costV endR
  rw [e]
  decide

/-- A row of the call's own, by g. -/
structure Sh (w0 : World) (g n : Nat) (f : Nat → Nat) (w : World) : Prop where
  own : OwnI w g n (fun i => ((f i : Nat) : Int))
  bl : Below w0.heap.size w0 w
theorem Sh.keep {w0 : World} {g n : Nat} {f : Nat → Nat} {w w' : World} (h : Sh w0 g n f w) (hb : Below w.heap.size w w') : Sh w0 g n f w' := ⟨h.own.keep hb, below_step h.bl hb⟩
theorem swp_ints' (f : Nat → Nat) (a b : Nat) : updI (updI (fun i => ((f i : Nat) : Int)) a (f b)) b (f a) = fun i => ((Stb.swp f a b i : Nat) : Int) := by
  by_cases h : a = b
  · subst h
    funext i
    unfold updI Stb.swp
    by_cases h1 : i = a
    · rw [if_pos h1, if_pos h1]
    · rw [if_neg h1, if_neg h1, if_neg h1, if_neg h1]
  · exact swp_ints f h
theorem Sh.swap {w0 : World} {g n : Nat} (hge : w0.heap.size ≤ g) {f : Nat → Nat} {w : World} (h : Sh w0 g n f w) (x y : Nat) :
    Sh w0 g n (swp f x y) ((w.setCell ⟨g, x, none⟩ (.int .i64 (f y : Int))).setCell ⟨g, y, none⟩ (.int .i64 (f x : Int))) := by
  have o1 := h.own.set x (f y : Int)
  have b1 := h.bl.setCell (p := ⟨g, x, none⟩) hge (.int .i64 (f y : Int))
  have o2 := o1.set y (f x : Int)
  have b2 := b1.setCell (p := ⟨g, y, none⟩) hge (.int .i64 (f x : Int))
  rw [swp_ints'] at o2
  exact ⟨o2, b2⟩

def ShPost (w : World) (n : Nat) (e : Ending) (w' : World) : Prop := ∃ (G : Nat) (g : Nat → Nat), w.heap.size ≤ G ∧ e = .returned (.slice (some ⟨G, 0, none⟩) n n) ∧ OwnI w' G n (nI g) ∧ Re 0 n id g ∧ Below w.heap.size w w'
end Go.Proofs.YtmpigipeajdgcaaDoor
