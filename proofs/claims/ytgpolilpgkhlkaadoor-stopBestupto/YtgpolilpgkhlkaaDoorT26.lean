/- StopSnell: what it needs. -/
import Derived.Test.YtgpolilpgkhlkaaDoorT15
import Derived.Test.YtgpolilpgkhlkaaDoorT16
import Derived.Test.YtgpolilpgkhlkaaDoorT17
namespace Go.Proofs.YtgpolilpgkhlkaaDoor
open Go.RowKit Go.Sort Go.Shelf

/-- What is told to be added. -/
def mor (qs : List (Int × Int)) (k : Nat) : Rat := if k < qs.length ∧ 0 < pq qs[k]! then pq qs[k]! else 0
theorem mor_nn (qs : List (Int × Int)) (k : Nat) : 0 ≤ mor qs k := by
  unfold mor
  split
  · rename_i h; exact Rat.le_of_lt h.2
  · exact Rat.le_refl
theorem mor_pos {qs : List (Int × Int)} {k : Nat} (h : k < qs.length) (h2 : 0 < pq qs[k]!) : mor qs k = pq qs[k]! := by
  unfold mor; rw [if_pos ⟨h, h2⟩]
theorem mor_not {qs : List (Int × Int)} {k : Nat} (h : ¬ (k < qs.length ∧ 0 < pq qs[k]!)) : mor qs k = 0 := by
  unfold mor; rw [if_neg h]
/-- Some other one: ahead of what is added. -/
def bsr (M : Stp.Ch) (mo : Nat → Rat) : Nat → Nat → Rat
  | 0, i => M.g i
  | t + 1, i => Stp.mx (M.g i) (Stp.on M (fun j => bsr M mo t j + mo (t * M.n + j)) i)
def ovr (M : Stp.Ch) (mo : Nat → Rat) (t i : Nat) : Rat := bsr M mo t i + mo (t * M.n + i)
def pvr (M : Stp.Ch) (mo : Nat → Rat) : Nat → Nat → Rat
  | 0, i => M.g i
  | t + 1, i => ovr M mo t i
theorem bsr_succ (M : Stp.Ch) (mo : Nat → Rat) (t i : Nat) : bsr M mo (t + 1) i = Stp.mx (M.g i) (Stp.on M (ovr M mo t) i) := rfl
theorem bsr_take (M : Stp.Ch) (mo : Nat → Rat) (t i : Nat) : M.g i ≤ bsr M mo t i := by
  cases t with
  | zero => exact Rat.le_refl
  | succ t => exact Stp.mx_l _ _
theorem env_ovr {M : Stp.Ch} {mo : Nat → Rat} (hp : ∀ i k, i < M.n → k < M.n → 0 ≤ M.p i k) (hm : ∀ k, 0 ≤ mo k) (t i : Nat) (hi : i < M.n) : Stp.env M t i ≤ ovr M mo t i := by
  refine Stp.snell hp t (fun s j _ _ => ?_) (fun s j _ _ => ?_) i hi
  · have h1 := bsr_take M mo s j
    have h2 := hm (s * M.n + j)
    unfold ovr; grind
  · have h1 : Stp.on M (ovr M mo s) j ≤ bsr M mo (s + 1) j := Stp.mx_r _ _
    have h2 := hm ((s + 1) * M.n + j)
    show _ ≤ bsr M mo (s + 1) j + _
    grind
def bb : Nat → Nat
  | 0 => 1
  | t + 1 => 8 * ((bb t + 2) + 2) + 3
theorem bb_le {t : Nat} (h : t ≤ 5) : bb t ≤ 200000 := by
  match t, h with
  | 0, _ | 1, _ | 2, _ | 3, _ | 4, _ | 5, _ => decide
theorem bsr_RS {P : List (List Rat)} {gs : List Rat} {c : Rat} {mo : Nat → Rat} (sm : SmC P gs c) (gm : GoodC P gs) (hm : ∀ k, RS (mo k) 1) : ∀ (t i : Nat), i < P.length → RS (bsr (chn P gs c) mo t i) (bb t)
  | 0, i, hi => sm.rg i (by rw [gm.gl]; exact hi)
  | t + 1, i, hi => mx_RS ((sm.rg i (by rw [gm.gl]; exact hi)).mono (by show 1 ≤ 8 * ((bb t + 2) + 2) + 3; omega)) (on_RS sm gm hi (fun j hj => RS.mono ((bsr_RS sm gm hm t j hj).add (hm (t * P.length + j))) (by omega)))
theorem ovr_small {P : List (List Rat)} {gs : List Rat} {c : Rat} {mo : Nat → Rat} (sm : SmC P gs c) (gm : GoodC P gs) (hm : ∀ k, RS (mo k) 1) {t i : Nat} (ht : t ≤ 5) (hi : i < P.length) : RS (ovr (chn P gs c) mo t i) 300000 := by
  have := bb_le ht
  exact RS.mono ((bsr_RS sm gm hm t i hi).add (hm _)) (by omega)
theorem bsr_small {P : List (List Rat)} {gs : List Rat} {c : Rat} {mo : Nat → Rat} (sm : SmC P gs c) (gm : GoodC P gs) (hm : ∀ k, RS (mo k) 1) {t i : Nat} (ht : t ≤ 5) (hi : i < P.length) : RS (bsr (chn P gs c) mo t i) 300000 := by
  have := bb_le ht
  exact RS.mono (bsr_RS sm gm hm t i hi) (by omega)
theorem mor_RS {w : World} {v : Value} {qs : List (Int × Int)} (h : PairsAre w v qs) (k : Nat) : RS (mor qs k) 1 := by
  unfold mor
  split
  · rename_i hk
    have := pqs_RS h k (by rw [pqs_length]; exact hk.1)
    rw [pqs_get hk.1] at this
    exact this
  · exact RS.zero
theorem cloned_law {w : World} {us : List Tri} {qs : List Rat} {n cap : Nat} (hus : us.length = n) (hq : qs.length = n) (hr : ∀ j, j < n → RatIs w (us[j]!).val qs[j]!) (hcap : n ≤ cap) (hmx : cap ≤ maxLen) :
    LawIs ((w.alloc (.cells #[] 35)).drew.alloc (.cells ((tcells us).toArray ++ Builtin.zeroCells zR (cap - n)) 35)) (.slice (some ⟨w.heap.size + 1, 0, none⟩) n cap) qs ∧
    Below w.heap.size w ((w.alloc (.cells #[] 35)).drew.alloc (.cells ((tcells us).toArray ++ Builtin.zeroCells zR (cap - n)) 35)) := by
  have bA : Below w.heap.size w ((w.alloc (.cells #[] 35)).drew.alloc (.cells ((tcells us).toArray ++ Builtin.zeroCells zR (cap - n)) 35)) := below_step (below_step (alloc_below w _) ((Below.refl _ _).drew)) (alloc_below _ _)
  refine ⟨?_, bA⟩
  have hn := heap_alloc_new ((w.alloc (.cells #[] 35)).drew) (.cells ((tcells us).toArray ++ Builtin.zeroCells zR (cap - n)) 35)
  have hsz : (w.alloc (.cells #[] 35)).drew.heap.size = w.heap.size + 1 := alloc_size w _
  rw [hsz] at hn
  refine ⟨_, cap, by rw [hq], by omega, by unfold maxLen at hmx; exact hmx, fun hp => ⟨w.heap.size + 1, 0, rfl, (Array.getElem?_eq_some_iff.1 hn).1, fun j hj => ?_⟩⟩
  have ck : ∀ k, k < 3 → ((w.alloc (.cells #[] 35)).drew.alloc (.cells ((tcells us).toArray ++ Builtin.zeroCells zR (cap - n)) 35)).cell? ⟨w.heap.size + 1, 0 + j * 3 + k, none⟩ = (us[j]!).cells[k]? := fun k hk => by
    simp only [World.cell?, hn]
    have e := tcells_get us j k (by omega) hk
    have hl : 0 + j * 3 + k < (tcells us).length := by rw [tcells_length]; omega
    rw [Array.getElem?_append_left (by simpa using hl)]
    simpa using e
  exact ⟨_, _, _, _, _, _, _, ck 0 (by decide), ck 1 (by decide), ck 2 (by decide), (hr j (by omega)).below bA⟩
end Go.Proofs.YtgpolilpgkhlkaaDoor
