/- Things of gates that are made: the whole one is put behind the others. -/
import Derived.Test.YtpopcfclpemlaaaDoorRR3
import Derived.Test.YtpopcfclpemlaaaDoorRR2
import Derived.Test.YtpopcfclpemlaaaDoorRKB
namespace Go.Proofs.YtpopcfclpemlaaaDoor
open Go.RowKit Go.Sort Go.Shelf

theorem frow_of {W : World} {b11 B : Nat} {vw vg : Value} {xs : List Int} (h : OwnL W B vg xs) (hx : 0 < xs.length) (hB : b11 < B) (hv : ∀ k, vw.ownBlock = some k → k < B) : ∃ a c, vg = .slice a xs.length c ∧ FRow W b11 vw a xs.length c (fun j => xs[j]!) := by
  obtain ⟨a, c, e, hi⟩ := h.irow
  refine ⟨a, c, e, hi, hx, fun b o ea => ?_⟩
  have hk := own_kind h
  rcases h.2 with ⟨e1, h0⟩ | ⟨g, cap, cur, e1, hb, hg, -⟩
  · omega
  · rw [e1] at e
    injection e with e2
    rw [ea] at e2
    injection e2 with e2
    injection e2 with e2 e3
    subst e2
    exact ⟨by omega, fun e4 => by have := hv _ e4; omega, cur, hg⟩
theorem GSt.whole {wb wr W w8 : World} {b11 g8 cap8 : Nat} {vl vw : Value} {gs : List Gt} {R : Nat → Nat → Int} {xs : List Int} {L : Int} {G : Rsk.Gs} (h : GSt wb wr b11 vl gs R vw xs L) (hW : Below wr.heap.size wr W)
    (own : w8.ownsRow (b11 + 1) 58 2 (.slice (some ⟨g8, 0, none⟩) (gs.length + 1) cap8) (gs.length + 1) (gcells gs ++ [.int .i64 L, vw])) (grow : W.grownBy w8 vl.ownBlock)
    (e : ∀ j, j < gs.length → (gs[j]!).1 = G.L j ∧ (gs[j]!).2.2.1 = G.C j ∧ ∀ k, k < G.C j → R j k = G.R j k) (eL : L = G.L gs.length) (eC : xs.length = G.C gs.length) (eR : ∀ k, k < xs.length → xs[k]! = G.R gs.length k) :
    (∃ H, GRow w8 (some ⟨g8, 0, none⟩) (gs.length + 1) cap8 G H) ∧ Below wb.heap.size wb w8 := by
  have k := h.keep hW
  have hf : ∀ b, b < W.heap.size → (∃ cur, W.heap[b]? = some (.cells cur 3)) → w8.heap[b]? = W.heap[b]? := fun b hb ⟨cur, hc⟩ => grow.block b hb (fun e => by
    obtain ⟨_, _, c, hc'⟩ := own_kind k.ol b e.symm
    rw [hc] at hc'
    injection hc' with e1; injection e1 with _ e2
    exact ty_ne e2)
  refine ⟨?_, Below.grown k.bl grow k.bl.size (fun b hb => by have := (own_kind k.ol b hb).1; have := h.hb; omega)⟩
  have ko : OwnL w8 (b11 + 1) vw xs := own_kept k.ow fun b hb => by
    obtain ⟨_, h2, c, h3⟩ := own_kind k.ow b hb
    exact hf b h2 ⟨c, h3⟩
  obtain ⟨a, c, rfl, hi⟩ := ko.irow
  have own' : w8.ownsRow (b11 + 1) 58 2 (.slice (some ⟨g8, 0, none⟩) (gs.length + 1) cap8) (gs.length + 1) (gcells (gs ++ [(L, a, xs.length, c)])) := by rw [gcells_append]; exact own
  refine ⟨_, grow_of (R := fun j => if j = gs.length then (fun k => xs[k]!) else R j) own' (by rw [List.length_append]; rfl) (fun j hj => ?_) (fun j hj => ?_)⟩
  · rcases Nat.lt_or_ge j gs.length with q | q
    · rw [getg_lt q, if_neg (by omega)]
      exact ((k.rows j q).kept (vx := .slice a xs.length c) (fun b _ hl hc hv => ⟨hf b hl hc, hv⟩) grow.size).1
    · obtain rfl : j = gs.length := by omega
      rw [getg_eq, if_pos rfl]
      exact hi
  · rcases Nat.lt_or_ge j gs.length with q | q
    · rw [getg_lt q, if_neg (by omega)]
      obtain ⟨e1, e2, e3⟩ := e j q
      exact ⟨e1, e2, fun k hk => e3 k (by omega)⟩
    · obtain rfl : j = gs.length := by omega
      rw [getg_eq, if_pos rfl]
      exact ⟨eL, eC, eR⟩
/-- Fractions that are all the same one. -/
theorem law_same {w : World} {B n : Nat} {v : Value} {t : Tri} {q : Rat} (own : w.ownsRow B 31 3 v n (tcells (List.replicate n t))) (h : RatIs w t.val q) : LawIs w v (List.replicate n q) := by
  have own' : w.ownsRow B 31 3 v (List.replicate n t).length (tcells (List.replicate n t)) := by rw [List.length_replicate]; exact own
  refine law_of_owns own' (by rw [List.length_replicate, List.length_replicate]) (fun j hj => ?_)
  rw [List.length_replicate] at hj
  have e1 : (List.replicate n t)[j]! = t := by simp [hj]
  have e2 : (List.replicate n q)[j]! = q := by simp [hj]
  rw [e1, e2]; exact h
theorem tcells_more (n : Nat) (t : Tri) : tcells (List.replicate n t) ++ t.cells = tcells (List.replicate (n + 1) t) := by
  rw [List.replicate_succ', tcells_append]
/-- The names ahead of a gate of a row, turned. -/
def ngs (i : Nat) : List Int := (List.range i).map fun j => -((j + 1 : Nat) : Int)
theorem ngs_length (i : Nat) : (ngs i).length = i := by simp [ngs]
theorem ngs_next (i : Nat) : ngs (i + 1) = ngs i ++ [-((i + 1 : Nat) : Int)] := by
  unfold ngs
  rw [List.range_succ, List.map_append]; rfl
theorem ngs_get {i k : Nat} (h : k < i) : (ngs i)[k]! = -((k + 1 : Nat) : Int) := by simp [ngs, h]
/-- Names one behind the other. -/
def fws (i k : Nat) : List Int := (List.range k).map fun j => ((i + j : Nat) : Int)
theorem fws_length (i k : Nat) : (fws i k).length = k := by simp [fws]
theorem fws_next (i k : Nat) : fws i (k + 1) = fws i k ++ [((i + k : Nat) : Int)] := by
  unfold fws
  rw [List.range_succ, List.map_append]; rfl
theorem fws_get {i k j : Nat} (h : j < k) : (fws i k)[j]! = ((i + j : Nat) : Int) := by simp [fws, h]
theorem rep_get {n j : Nat} {q : Rat} (h : j < n) : xq (List.replicate n q) j = q := by
  show (List.replicate n q)[j]! = q
  simp [h]
theorem rg_all : ∀ n, n < 6 → ∀ b, b < 4 → gcode ((n + 1 : Nat) : Int) (Rsk.rgates (n + 1) (b + 1)) (n + 1 + 1 - (b + 1) + 1) = 0 := by decide +kernel
theorem rg_code {n b : Nat} (h1 : 1 ≤ n) (h2 : n ≤ 6) (h3 : 1 ≤ b) (h4 : b ≤ 4) : gcode (n : Int) (Rsk.rgates n b) (n + 1 - b + 1) = 0 := by
  have h := rg_all (n - 1) (by omega) (b - 1) (by omega)
  rw [show n - 1 + 1 = n by omega, show b - 1 + 1 = b by omega] at h
  exact h
theorem mfst_none {g : Nat → Int} : ∀ n, (∀ i, i < n → g i = 0) → mfst g n = 0
  | 0, _ => rfl
  | n + 1, h => mfst_next (mfst_none n (fun i hi => h i (by omega))) (h n (by omega))
theorem rg_ccode {n b : Nat} {q : Rat} (h1 : 1 ≤ n) (h2 : n ≤ 6) (h3 : 1 ≤ b) (h4 : b ≤ 4) (hic : icB q = true) : ccode (Rsk.rgates n b) (n + 1 - b + 1) (List.replicate n q) = 0 := by
  unfold ccode
  rw [List.length_replicate, if_pos (rg_code h1 h2 h3 h4)]
  exact mfst_none _ (fun i hi => by unfold ccd; rw [rep_get hi, if_pos hic])
theorem rg_chance {n b : Nat} (q : Rat) (h1 : 1 ≤ n) (h2 : n ≤ 6) (h3 : 1 ≤ b) (h4 : b ≤ 4) : Rsk.lk (xq (List.replicate n q)) n (Rsk.wf (Rsk.rgates n b) (n + 1 - b + 1)) = Rsk.rwv q (Rsk.pwr (((1 : Int) : Rat) - q) b) b n := by
  rw [show ((1 : Int) : Rat) = 1 by simp, ← Rsk.rows q h1 h2 h3 h4]
  exact Rsk.lk_congr n (fun j hj => rep_get hj) (fun _ _ => rfl)
end Go.Proofs.YtpopcfclpemlaaaDoor
