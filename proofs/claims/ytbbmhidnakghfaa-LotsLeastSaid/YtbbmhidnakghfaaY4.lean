/- Johnson, Longest; the first law. -/
import Derived.Test.YtbbmhidnakghfaaY3
import Derived.Laws.EntriesVeiled
namespace Go.Proofs.Ytbbmhidnakghfaa
open Go.RowKit Go.Sort Stb

/-- A block of one cell. -/
def Box1 (T : TypeId) (w : World) (g : Nat) (u : Value) : Prop := w.heap[g]? = some (.cells #[u] T)
theorem Box1.lt {T : TypeId} {w : World} {g : Nat} {u : Value} (h : Box1 T w g u) : g < w.heap.size := (Array.getElem?_eq_some_iff.1 h).1
theorem Box1.keep {T : TypeId} {w w' : World} {g : Nat} {u : Value} (h : Box1 T w g u) (hb : Below w.heap.size w w') : Box1 T w' g u := by
  unfold Box1; rw [hb.block g h.lt]; exact h
theorem Box1.c0 {T : TypeId} {w : World} {g : Nat} {u : Value} (h : Box1 T w g u) : w.cell? ⟨g, 0, none⟩ = some u := by
  unfold Box1 at h
  simp only [World.cell?, h]
  rfl
theorem Box1.free {T : TypeId} {w : World} {g : Nat} {u : Value} (h : Box1 T w g u) (j : Nat) : w.frozen? ⟨g, j, none⟩ = false := by
  unfold Box1 at h; simp [World.frozen?, h]
theorem Box1.set {T : TypeId} {w : World} {g : Nat} {u : Value} (h : Box1 T w g u) (x : Value) : Box1 T (w.setCell ⟨g, 0, none⟩ x) g x := by
  unfold Box1 at h ⊢
  rw [setCell_eq]
  simp only [mapBlock, Array.getElem?_modify, h, if_true, Option.map_some, onCells]
  rfl
theorem Box1.apart {T : TypeId} {w : World} {g b j : Nat} {u x : Value} (h : Box1 T w g u) (hne : g ≠ b) : Box1 T (w.setCell ⟨b, j, none⟩ x) g u := by
  unfold Box1; rw [Below.heap_setCell _ _ _ _ hne]; exact h
theorem Box1.new (T : TypeId) (w : World) (u : Value) : Box1 T (w.alloc (.cells #[u] T)) w.heap.size u := heap_alloc_new w _

/-- What Johnson leaves. -/
def JoPost (w : World) (n : Nat) (f : Nat → T2) (e : Ending) (w' : World) : Prop :=
  Below w.heap.size w w' ∧ ((dcode n f ≠ 0 ∧ e = .returned (.tuple #[.slice none 0 0, .iface 42 (.int .i64 (dcode n f))])) ∨ (dcode n f = 0 ∧ ∃ (G : Nat) (g : Nat → Nat), w.heap.size ≤ G ∧ e = .returned (.tuple #[.slice (some ⟨G, 0, none⟩) n n, .nilIface]) ∧ OwnI w' G n (nI g) ∧ Re 0 n id g ∧ Sr (ltc (fun i k => ncmp (f i) (f k))) g 0 n))
theorem eg_j (args : Array Value) (w : World) : (callFunc 17 args).run Try.prog w = .ok (.enter 17 args) w := by
  go_simp

set_option maxHeartbeats 8000000 in
set_option maxRecDepth 100000 in
set_option linter.unusedSimpArgs false in
theorem johnson_any (a : Option Addr) (n c : Nat) (f : Nat → T2) (w : World) (ha : DRow w a n c f) :
    Calls Try.prog 9 #[.slice a n c] w (JoPost w n f) := by
  obtain ⟨w1, hw1⟩ : ∃ W, w.alloc (.cells #[.slice a n c] 38) = W := ⟨_, rfl⟩
  have b1 : Below w.heap.size w w1 := by rw [← hw1]; exact alloc_below _ _
  have sz1 : w1.heap.size = w.heap.size + 1 := by rw [← hw1, alloc_size]
  obtain ⟨pa, hpa⟩ : ∃ p, w.heap.size = p := ⟨_, rfl⟩
  have ca : w1.cell? ⟨pa, 0, none⟩ = some (.slice a n c) := by rw [← hw1, ← hpa]; simp only [World.cell?, heap_alloc_new]; rfl
  have h2' := ha.2.1
  have HC := hide (checkTwo_any a n c f w1 (ha.below b1))
  have HA := hide ha
  have HB1 := hide b1
  have HPA : Hid (pa < w1.heap.size) := by show pa < w1.heap.size; omega
  have HCA := hide ca
  by_cases ht : dcode n f = 0
  case neg =>
    rw [errV_not ht] at HC
    obtain ⟨k, hk⟩ : ∃ k, dcode n f = k := ⟨_, rfl⟩
    rw [hk] at HC ht
    have HK := hide hk
    have HT := hide ht
    clear hk ht ha b1 sz1
    go_enter Try.func9, Try.ntmps9
    go_wp2_with fail
    refine (unhide HC).mono ?_
    rintro e w2 ⟨rfl, hb2⟩
    go_wp2
    go_ret2
    refine ⟨below_step (unhide HB1) hb2, Or.inl ?_⟩
    rw [unhide HK]
    exact ⟨unhide HT, rfl⟩
  rw [ht, errV_zero] at HC
  have gD := goodD_of ht
  have HT := hide ht
  have hn60 := gD.few
  clear ht gD ha b1 sz1
  go_enter Try.func9, Try.ntmps9
  go_wp2_with fail
  refine (unhide HC).mono ?_
  rintro e w2 ⟨rfl, hb2⟩
  have bw2 := below_step (unhide HB1) hb2
  have X0 := Box1.new 48 w2 .nilFunc
  have b3 := alloc_below w2 (.cells #[.nilFunc] 48)
  have sz3 := alloc_size w2 (.cells #[.nilFunc] 48)
  obtain ⟨w3a, hw3a⟩ : ∃ W, w2.alloc (.cells #[.nilFunc] 48) = W := ⟨_, rfl⟩
  rw [hw3a] at X0 b3 sz3
  obtain ⟨pb, hpb⟩ : ∃ p, w2.heap.size = p := ⟨_, rfl⟩
  rw [hpb] at X0
  have y0 := X0.c0
  have l0 := X0.free 0
  have X1 := X0.set (.func (.func 15) #[] #[])
  have b3 := b3.setCell (p := ⟨pb, 0, none⟩) (Nat.le_of_eq hpb) (.func (.func 15) #[] #[])
  obtain ⟨w3, hw3⟩ : ∃ W, w3a.setCell ⟨pb, 0, none⟩ (.func (.func 15) #[] #[]) = W := ⟨_, rfl⟩
  rw [hw3] at X1 b3
  have hlt3 := X1.lt
  have cb3 := X1.c0
  have ca3 : w3.cell? ⟨pa, 0, none⟩ = some (.slice a n c) := by rw [b3.cell (p := ⟨pa, 0, none⟩) (Nat.lt_of_lt_of_le (unhide HPA) hb2.size), hb2.cell (p := ⟨pa, 0, none⟩) (unhide HPA)]; exact ca
  have bw3 := below_step bw2 b3
  have HCM : Hid (Cmps w3 n 17 #[.pointer (some ⟨pa, 0, none⟩), .pointer (some ⟨pb, 0, none⟩)] (fun i k => ncmp (f i) (f k))) :=
    ⟨eg_j, fun i k W hi hk hW => johnson2_any pa pb a n c f w3 W i k hi hk hn60 ((unhide HA).below bw3) ca3 cb3 (Nat.lt_of_lt_of_le (unhide HPA) (Nat.le_trans hb2.size b3.size)) hlt3 hW⟩
  have HS := hide (sorted_any n 17 _ _ w3 (by omega) (unhide HCM) wo_n)
  have HBW := hide bw3
  have HSZ : Hid (w.heap.size ≤ w3.heap.size) := bw3.size
  clear HCM cb3 bw2 bw3 b3 sz3 HA X0 X1 hlt3
  go_wp2_with fail
  refine (unhide HS).mono ?_
  rintro e w4 ⟨G, g, hG, rfl, hO, hre, hsr, hb4⟩
  have HF : Hid (w.heap.size ≤ G ∧ OwnI w4 G n (nI g) ∧ Re 0 n id g ∧ Sr (ltc (fun i k => ncmp (f i) (f k))) g 0 n) := ⟨Nat.le_trans (unhide HSZ) hG, hO, hre, hsr⟩
  have HB4 := hide (below_step (unhide HBW) hb4)
  clear hG hO hre hsr hb4 HS
  go_wp2
  go_ret2
  obtain ⟨hG, hO, hre, hsr⟩ := unhide HF
  exact ⟨unhide HB4, Or.inr ⟨unhide HT, G, g, hG, rfl, hO, hre, hsr⟩⟩

theorem jo_of {f : Nat → T2} {x y : Nat} (h : ltc (fun i k => ncmp (f i) (f k)) y x = false) : Shp.Jo (aD f) (bD f) x y := by
  rw [ncmp_key] at h
  have h1 := of_decide_eq_false h
  unfold Shp.Jo aD bD
  omega
/-- Johnson's row is done no later than another. -/
theorem johnson_least {n : Nat} {f : Nat → T2} {g s : Nat → Nat} (hg : Re 0 n id g) (hs : Re 0 n id s) (hsr : Sr (ltc (fun i k => ncmp (f i) (f k))) g 0 n) : flowV f (nI g) n ≤ flowV f (nI s) n := by
  have hlt := hg.lt (Nat.le_refl _) (fun i hi => hi)
  refine Shp.johnson (aD f) (bD f) _ _ 0 0 ((rl_perm (goodR_re hg)).trans (rl_perm (goodR_re hs)).symm) ?_
  rw [rl_nI]
  refine pair_map fun p q hpq hq => ?_
  exact jo_of (lo_not wo_n (hlt p (by omega)) (hlt q hq) (hsr p q (Nat.zero_le _) hpq hq))
theorem fcode_re {n : Nat} {f : Nat → T2} {g : Nat → Nat} (ht : dcode n f = 0) (h : Re 0 n id g) : fcode n f (nI g) n = 0 := by
  unfold fcode
  rw [if_neg (by rw [ht]; decide)]
  unfold ocode
  rw [if_neg (by simp)]
  exact oc_of_good (goodR_re h) n (Nat.le_refl _)

/-- The fact's two. -/
def twoD (i : Nat) : T2 := if i = 0 then (3, 1) else (1, 3)
theorem twoD_good : dcode 2 twoD = 0 := by decide
theorem twoD_row {w w' : World} {T : TypeId} (h : Below (w.alloc (.cells #[.int .i64 3, .int .i64 1, .int .i64 1, .int .i64 3] T)).heap.size (w.alloc (.cells #[.int .i64 3, .int .i64 1, .int .i64 1, .int .i64 3] T)) w') : DRow w' (some ⟨w.heap.size, 0, none⟩) 2 2 twoD := by
  have hs := alloc_size w (.cells #[.int .i64 3, .int .i64 1, .int .i64 1, .int .i64 3] T)
  refine ⟨Nat.le_refl _, by decide, fun _ => ⟨w.heap.size, 0, rfl, by have := h.size; omega, fun j hj => ?_⟩⟩
  have c : ∀ i, w'.cell? ⟨w.heap.size, i, none⟩ = (#[Value.int .i64 3, .int .i64 1, .int .i64 1, .int .i64 3] : Array Value)[i]? := fun i => by
    rw [h.cell (p := ⟨w.heap.size, i, none⟩) (by show w.heap.size < _; omega)]
    simp only [World.cell?, heap_alloc_new]
    rfl
  simp only [c]
  obtain rfl | rfl : j = 0 ∨ j = 1 := by omega
  · exact ⟨rfl, rfl⟩
  · exact ⟨rfl, rfl⟩
theorem twoD_sorted {g : Nat → Nat} (hg : Re 0 2 id g) (hsr : Sr (ltc (fun i k => ncmp (twoD i) (twoD k))) g 0 2) : g 0 = 1 ∧ g 1 = 0 := by
  have hlt := hg.lt (Nat.le_refl _) (fun i hi => hi)
  have h0 := hlt 0 (by decide)
  have h1 := hlt 1 (by decide)
  have hne : g 0 ≠ g 1 := fun e => by have := hg.inj (Nat.le_refl 2) (fun i j _ _ e => e) 0 1 (by decide) (by decide) e; omega
  have h2 := lo_not wo_n h0 h1 (hsr 0 1 (Nat.le_refl _) (by decide) (by decide))
  by_cases c : g 0 = 0
  · have c1 : g 1 = 1 := by omega
    rw [c, c1] at h2
    exact absurd h2 (by decide)
  · exact ⟨by omega, by omega⟩
theorem twoD_flow {g : Nat → Nat} (h : g 0 = 1 ∧ g 1 = 0) : flowV twoD (nI g) 2 = 5 := by
  have e : rl (nI g) 2 = [1, 0] := by
    rw [rl_nI]
    show [g 0, g 1] = _
    rw [h.1, h.2]
  unfold flowV
  rw [e]
  decide

set_option maxHeartbeats 8000000 in
set_option maxRecDepth 100000 in
set_option linter.unusedSimpArgs false in
theorem flowed_any (w : World) : Calls Try.prog 5 #[] w fun e w' => e = .returned (.bool true) ∧ Below w.heap.size w w' := by
  go_enter Try.func5, Try.ntmps5
  go_wp2_with fail
  have hr0 := twoD_row (w := w) (T := 37) (Below.refl _ _)
  have hb0 := alloc_below w (.cells #[.int .i64 3, .int .i64 1, .int .i64 1, .int .i64 3] 37)
  obtain ⟨W0, hW0⟩ : ∃ W, w.alloc (.cells #[.int .i64 3, .int .i64 1, .int .i64 1, .int .i64 3] 37) = W := ⟨_, rfl⟩
  rw [hW0] at hr0 hb0
  try rw [hW0]
  refine (johnson_any _ 2 2 twoD _ hr0).mono ?_
  rintro e w1 ⟨hb1, hp⟩
  rcases hp with ⟨h1, _⟩ | ⟨_, G, g', hG, rfl, hO, hre, hsr⟩
  · exact absurd twoD_good h1
  · have hg := twoD_sorted hre hsr
    have HC := hide (flow_any (some ⟨w.heap.size, 0, none⟩) 2 2 twoD (some ⟨G, 0, none⟩) 2 2 (nI g') w1 (hr0.below hb1) (hO.irow (by decide)) (by decide))
    have HE := hide (fcode_re twoD_good hre)
    have HV := hide (twoD_flow hg)
    have c0 := hO.cell (j := 0) (by decide)
    rw [show nI g' 0 = 1 by unfold nI; rw [hg.1]; rfl] at c0
    have hGl := hO.lt
    have HB := hide (below_step hb0 hb1)
    clear hr0 hb0 hW0 hb1 hG hO hre hsr hg
    go_wp2_with fail
    refine (unhide HC).mono ?_
    rintro e w2 ⟨hb2, hp⟩
    rcases hp with ⟨h1, _⟩ | ⟨_, rfl⟩
    · exact absurd (unhide HE) h1
    · rw [unhide HV]
      rw [← hb2.cell (p := ⟨G, 0, none⟩) hGl] at c0
      have HB2 := hide (below_step (unhide HB) hb2)
      clear hb2 HC HE HV hGl
      go_wp2
      go_ret
      exact ⟨rfl, unhide HB2⟩

end Go.Proofs.Ytbbmhidnakghfaa
