/- Two neighbours in Best's order: what it costs to let them change places. -/
import Derived.Test.YtbboacmjbffmhaaGreatDoorU4
namespace Go.Proofs.YtbboacmjbffmhaaGreatDoor
open Go.RowKit Go.Sort Go.Shelf

theorem lf_congr {r m r' m' : Nat → Rat} (k : Nat) (h : ∀ i, i < k → r i = r' i ∧ m i = m' i) : Srv.lf r m k = Srv.lf r' m' k := by
  rw [Srv.lf_ps, Srv.lf_ps, Bth.ps_congr k (fun j hj => by show r j * m j = r' j * m' j; rw [(h j hj).1, (h j hj).2])]
theorem hf_congr {r m r' m' : Nat → Rat} (k : Nat) (h : ∀ i, i < k → r i = r' i ∧ m i = m' i) : Srv.hf r m k = Srv.hf r' m' k := by
  rw [Srv.hf_ps, Srv.hf_ps, Bth.ps_congr k (fun j hj => by show r j * m j / 2 = r' j * m' j / 2; rw [(h j hj).1, (h j hj).2])]
/-- Rates, moments and costs along an order. -/
def rf (ks : List (Rat × List Rat)) (f : Nat → Nat) (i : Nat) : Rat := (ks[f i]!).1
def mf (p : Nat) (ks : List (Rat × List Rat)) (f : Nat → Nat) (i : Nat) : Rat := mo p ks (f i)
def cf (cs : List Rat) (f : Nat → Nat) (i : Nat) : Rat := cs[f i]!
theorem sel_rm {ks : List (Rat × List Rat)} {f : Nat → Nat} {n i : Nat} (p : Nat) (h : i < n) : rt (sel ks f n) i = rf ks f i ∧ mo p (sel ks f n) i = mf p ks f i := by
  constructor
  · unfold rt rf; rw [sel_get h]
  · unfold mo mf mo; rw [sel_get h]
theorem lf_sel {ks : List (Rat × List Rat)} {f : Nat → Nat} {n k : Nat} (h : k ≤ n) : lfC (sel ks f n) k = Srv.lf (rf ks f) (mf 1 ks f) k := lf_congr k fun _ hi => sel_rm 1 (by omega)
theorem hf_sel {ks : List (Rat × List Rat)} {f : Nat → Nat} {n k : Nat} (h : k ≤ n) : hfC (sel ks f n) k = Srv.hf (rf ks f) (mf 2 ks f) k := hf_congr k fun _ hi => sel_rm 2 (by omega)
theorem cst_cost {ks : List (Rat × List Rat)} {cs : List Rat} {f : Nat → Nat} {n : Nat} : cstS ks cs f n n = Srv.cost (cf cs f) (rf ks f) (mf 1 ks f) (Srv.hf (rf ks f) (mf 2 ks f) n) n := by
  unfold cstS Srv.cost
  refine Bth.ps_congr n fun j hj => ?_
  show cs[f j]! * (ks[f j]!).1 * waitsC (sel ks f n) j = cf cs f j * rf ks f j * _
  unfold waitsC
  rw [sel_length, hf_sel (Nat.le_refl _), lf_sel (show j ≤ n by omega), lf_sel (show j + 1 ≤ n by omega)]
  rfl
theorem swp_sw (f : Nat → Nat) (t : Nat) : swp f t (t + 1) = fun i => f (Srv.sw t i) := by
  funext i
  unfold swp Srv.sw
  by_cases h : i = t
  · rw [if_pos h, if_pos h]
  · rw [if_neg h, if_neg h]
    by_cases h' : i = t + 1
    · rw [if_pos h', if_pos h']
    · rw [if_neg h', if_neg h']
theorem good_sel {ks : List (Rat × List Rat)} (h : GoodC ks) {f : Nat → Nat} {n : Nat} (hn : 0 < n) (hf : ∀ i, i < n → f i < ks.length) : GoodC (sel ks f n) := ⟨by rw [sel_length]; exact hn, fun j hj => by
  rw [sel_length] at hj
  rw [sel_get hj]
  exact h.2 _ (hf j hj)⟩
theorem fit_sel {ks : List (Rat × List Rat)} (h : GoodC ks) {f : Nat → Nat} {n : Nat} (hn : 0 < n) (hf : ∀ i, i < n → f i < ks.length) : FitC (sel ks f n) ↔ 0 < Srv.lf (rf ks f) (mf 1 ks f) n := by
  unfold FitC
  rw [sel_length, lf_sel (Nat.le_refl _)]
  exact ⟨fun x => x.2, fun x => ⟨good_sel h hn hf, x⟩⟩
theorem fit_swp {ks : List (Rat × List Rat)} (h : GoodC ks) {f : Nat → Nat} {n t : Nat} (ht : t + 1 < n) (hf : ∀ i, i < n → f i < ks.length) : FitC (sel ks (swp f t (t + 1)) n) ↔ FitC (sel ks f n) := by
  have hf2 : ∀ i, i < n → swp f t (t + 1) i < ks.length := fun i hi => by
    unfold swp
    split
    · exact hf _ ht
    · split
      · exact hf _ (by omega)
      · exact hf i hi
  rw [fit_sel h (by omega) hf2, fit_sel h (by omega) hf, swp_sw]
  rw [show Srv.lf (rf ks fun i => f (Srv.sw t i)) (mf 1 ks fun i => f (Srv.sw t i)) n = Srv.lf (rf ks f) (mf 1 ks f) n from Srv.lf_sw (rf ks f) (mf 1 ks f) (show n ≠ t + 1 by omega)]
theorem cheap_swp {ks : List (Rat × List Rat)} {cs : List Rat} (h : GoodC ks) (hz : ∀ i, i < ks.length → (mo 1 ks i).num ≠ 0) {f : Nat → Nat} {n t : Nat} (ht : t + 1 < n) (hf : ∀ i, i < n → f i < ks.length) (hs : Srt (wrt cs ks) f n) (fit : FitC (sel ks f n)) :
    cstS ks cs f n n ≤ cstS ks cs (swp f t (t + 1)) n n := by
  have hp := (fit_sel h (by omega) hf).1 fit
  have hr : ∀ i, i < n → 0 ≤ rf ks f i := fun i hi => rt_nn h.2 (hf i hi)
  have hm : ∀ i, i < n → 0 < mf 1 ks f i := fun i hi => by
    have h1 := mo_nn h.2 (p := 1) (hf i hi)
    have h2 := hz _ (hf i hi)
    refine Rat.not_le.1 fun h3 => h2 ?_
    have h4 : mo 1 ks (f i) = 0 := Rat.le_antisymm h3 h1
    rw [h4]; rfl
  have hH : 0 ≤ Srv.hf (rf ks f) (mf 2 ks f) n := Srv.hf_nn (n := n) (fun i hi => Rat.mul_nonneg (hr i hi) (mo_nn h.2 (p := 2) (hf i hi))) (Nat.le_refl _)
  have key := Srv.cheap (c := cf cs f) (r := rf ks f) (m := mf 1 ks f) (H := Srv.hf (rf ks f) (mf 2 ks f) n) (n := n) (t := t) hr hm hp hH ht (hs t (t + 1) (by omega) ht)
  rw [cst_cost, cst_cost, swp_sw]
  rw [show Srv.hf (rf ks fun i => f (Srv.sw t i)) (mf 2 ks fun i => f (Srv.sw t i)) n = Srv.hf (rf ks f) (mf 2 ks f) n from Srv.hf_sw (rf ks f) (mf 2 ks f) (show n ≠ t + 1 by omega)]
  exact key
end Go.Proofs.YtbboacmjbffmhaaGreatDoor
