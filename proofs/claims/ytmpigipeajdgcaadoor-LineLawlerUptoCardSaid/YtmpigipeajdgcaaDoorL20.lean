/- The document's own Check and Order of tasks; rows and numbers held against it. -/
import Derived.Test.YtmpigipeajdgcaaDoorL7
import Derived.Test.YtmpigipeajdgcaaDoorT1
import Derived.Deep.RegionLaw
namespace Go.Proofs.YtmpigipeajdgcaaDoor
open Go.RowKit Go.Sort

theorem drew2 (w : World) (a b : Nat) : ∃ k, (w.drewN a).drewN b = w.drewN k := ⟨a + b, by simp⟩
def pcells (ps : List T3) : List Value := ps.flatMap T3.cells
theorem pcells_length (ps : List T3) : (pcells ps).length = ps.length * 3 := by
  induction ps with
  | nil => rfl
  | cons t ts ih => simp only [pcells, List.flatMap_cons, List.length_append, List.length_cons] at *; simp only [T3.cells, List.length_cons, List.length_nil]; omega
theorem pcells_append (ps qs : List T3) : pcells (ps ++ qs) = pcells ps ++ pcells qs := by simp [pcells]
theorem pcells_one (t : T3) : pcells [t] = t.cells := by simp [pcells]
theorem pcells_get (ts : List T3) (j k : Nat) (hj : j < ts.length) (hk : k < 3) : (pcells ts)[j * 3 + k]? = (ts[j]!).cells[k]? := by
  induction ts generalizing j with
  | nil => simp at hj
  | cons t ts ih =>
    have e : pcells (t :: ts) = t.cells ++ pcells ts := by simp [pcells]
    have hl : t.cells.length = 3 := rfl
    rw [e]
    cases j with
    | zero => rw [List.getElem?_append_left (by omega)]; simp
    | succ j =>
      rw [List.getElem?_append_right (by omega), hl, show (j + 1) * 3 + k - 3 = j * 3 + k by omega, ih j (by simpa using hj)]
      simp
theorem cells_one (t : T3) : ∀ u ∈ t.cells, u.oneCell' = true := by
  intro u hu
  simp only [T3.cells, List.mem_cons, List.not_mem_nil, or_false] at hu
  rcases hu with rfl | rfl | rfl <;> rfl

theorem news_three (w : World) (t : T3) (T : TypeId) : ∀ j u, t.cells[j]? = some u → (w.alloc (.cells #[.int .i64 t.1, .int .i64 t.2.1, .int .i64 t.2.2] T)).cell? ((⟨w.heap.size, 0, none⟩ : Addr).add j) = some u :=
  World.news_of_block (cs := #[.int .i64 t.1, .int .i64 t.2.1, .int .i64 t.2.2]) (t := T) (fr := (0, 0)) (heap_alloc_new w _)
/-- A row of threes of the call's own, of a type. -/
def OwnT (T : TypeId) (w : World) (B : Nat) (v : Value) (ps : List T3) : Prop := w.ownsRow B T 3 v ps.length (pcells ps)
theorem OwnT.keep {T : TypeId} {w w' : World} {B : Nat} {v : Value} {ps : List T3} (h : OwnT T w B v ps) (hb : Below w.heap.size w w') : OwnT T w' B v ps := by
  refine ⟨h.1, ?_⟩
  rcases h.2 with h | ⟨g, cap, cur, hv, hg, hh, h1⟩
  · exact Or.inl h
  · exact Or.inr ⟨g, cap, cur, hv, hg, by rw [hb.block g (Array.getElem?_eq_some_iff.1 hh).1]; exact hh, h1⟩
theorem OwnT.start (T : TypeId) (w : World) (B : Nat) : OwnT T w B (.slice none 0 0) [] := World.ownsRow_nil _ _ _ _
theorem OwnT.trow {T : TypeId} {w : World} {B : Nat} {v : Value} {ps : List T3} (h : OwnT T w B v ps) : ∃ a c, v = .slice a ps.length c ∧ TRow w a ps.length c (fun j => ps[j]!) := by
  obtain ⟨h1, ⟨rfl, h2⟩ | ⟨g, cap, cur, rfl, hb, hh, hc1, hc2, hs, ht⟩⟩ := h
  · exact ⟨none, 0, by rw [h2], by omega, by decide, fun h => by omega⟩
  · refine ⟨_, _, rfl, hc1, by unfold maxLen at hc2; exact hc2, fun _ => ⟨g, 0, rfl, (Array.getElem?_eq_some_iff.1 hh).1, fun j hj => ?_⟩⟩
    have cellk : ∀ k, k < 3 → w.cell? ⟨g, 0 + j * 3 + k, none⟩ = (ps[j]!).cells[k]? := fun k hk => by
      simp only [World.cell?, hh, Nat.zero_add]
      have e : (cur.toList.take (ps.length * 3))[j * 3 + k]? = (pcells ps)[j * 3 + k]? := by rw [ht]
      rw [List.getElem?_take_of_lt (by omega), pcells_get ps j k (by omega) hk] at e
      simpa using e
    exact ⟨cellk 0 (by decide), cellk 1 (by decide), cellk 2 (by decide)⟩
theorem OwnT.row {T : TypeId} {w : World} {B : Nat} {v : Value} {ps : List T3} (h : OwnT T w B v ps) : ∀ k, v.ownBlock = some k → B ≤ k := by
  intro k hk
  obtain ⟨h1, ⟨rfl, h2⟩ | ⟨g, cap, cur, rfl, hb, _⟩⟩ := h
  · cases hk
  · obtain rfl : g = k := Option.some.inj hk
    exact hb

/-- The first k of a row. -/
def firsts (f : Nat → T3) (k : Nat) : List T3 := (List.range k).map f
theorem firsts_length (f : Nat → T3) (k : Nat) : (firsts f k).length = k := by simp [firsts]
theorem firsts_succ (f : Nat → T3) (k : Nat) : firsts f (k + 1) = firsts f k ++ [f k] := by unfold firsts; rw [List.range_succ, List.map_append]; rfl
theorem firsts_get (f : Nat → T3) {k i : Nat} (h : i < k) : (firsts f k)[i]! = f i := by simp [firsts, h]

theorem Tryd.infoTr : (Tryd.prog.info? 61).map (fun i => (i.zero, i.size, i.bytes)) = some (some (.agg #[.int .i64 0, .int .i64 0, .int .i64 0]), 3, 24) := by kernel_rfl

theorem trow_congr {w : World} {a : Option Addr} {n c : Nat} {f g : Nat → T3} (h : TRow w a n c f) (e : ∀ j, j < n → f j = g j) : TRow w a n c g := by
  obtain ⟨h1, h2, h3⟩ := h
  refine ⟨h1, h2, fun hn => ?_⟩
  obtain ⟨b, o, ea, hlt, hc⟩ := h3 hn
  exact ⟨b, o, ea, hlt, fun j hj => by rw [← e j hj]; exact hc j hj⟩

set_option maxHeartbeats 4000000 in
set_option maxRecDepth 100000 in
theorem tasks_any (a : Option Addr) (n c : Nat) (f : Nat → T3) (w : World) (ha : TRow w a n c f) (hn : n ≤ 1000) :
    Calls Tryd.prog 13 #[.slice a n c] w fun e w' => ∃ a' c', e = .returned (.slice a' n c') ∧ TRow w' a' n c' f ∧ Below w.heap.size w w' := by
  obtain ⟨ti, hi, hz0, hz1, hz2⟩ := info_parts Tryd.infoTr
  have HI := hide hi
  have HZ := hide hz0
  have HA := hide ha
  clear hi hz0 ha
  go_enter Tryd.func13, Tryd.ntmps13
  go_wp2_with fail
  go_loopw [3, 4] (fun vo vi wr => ∃ i : Nat, vi = .int .i64 (i : Int) ∧ i ≤ n ∧ OwnT 61 wr w.heap.size vo (firsts f i) ∧ Below w.heap.size w wr) (fun _ vi _ => n - (intOf vi).toNat)
  case atStart => exact ⟨0, rfl, Nat.zero_le _, OwnT.start _ _ _, Below.refl _ _⟩
  case round =>
    obtain ⟨i, rfl, hi, hO, hb⟩ := hrel
    by_cases hlt : i < n
    · obtain ⟨b, o, rfl, hbl, hc3⟩ := ((unhide HA).below hb).2.2 (by omega)
      have ⟨q0, q1, q2⟩ := hc3 i hlt
      obtain ⟨⟨x, y, z⟩, hf⟩ : ∃ t, f i = t := ⟨_, rfl⟩
      rw [hf] at q0 q1 q2
      simp only at q0 q1 q2
      have e1 : (i : Int) < (n : Int) := by omega
      have HO := hide hO
      have HB := hide hb
      have HS : Hid (firsts f (i + 1) = firsts f i ++ [(x, y, z)]) := by show _ = _; rw [firsts_succ, hf]
      have HL := hide (firsts_length f i)
      clear hc3 hO hb hf
      go_wp2_with fail
      go_region_law ((refine step_append_lies _ rfl (.tmp 11) (.tmp 28) 30 rfl w.heap.size 61 ti (.agg #[.int .i64 0, .int .i64 0, .int .i64 0]) 3 24 Tryd.underlying30 (unhide HI) (unhide HZ) hz1 hz2 rfl (by decide) u3 (firsts f i).length (pcells (firsts f i)) (by simp [Act.eval]) ((unhide HO).keep (below_step (drew_below _) (alloc_below _ _))) ⟨wr.heap.size, 0, none⟩ 1 1 (T3.cells (x, y, z)) (by simp [Act.eval]) rfl (news_three _ (x, y, z) _) (cells_one _) (by decide) (by rw [unhide HL]; unfold maxLen; omega) (by rw [unhide HL]; omega) (Nat.le_trans (unhide HB).size (below_step (drew_below wr) (alloc_below _ _)).size) _ rfl ?_; intro g2 cap2 w4 own4 grow4 hat4 hlt4))
      all_goals
        have FIN : Hid (OwnT 61 w4 w.heap.size (.slice (some ⟨g2, 0, none⟩) ((firsts f i).length + 1) cap2) (firsts f (i + 1))) := by
          show OwnT _ _ _ _ _
          rw [unhide HS]
          unfold OwnT
          rw [pcells_append, pcells_one, List.length_append]
          exact own4
        have FB : Hid (Below w.heap.size w w4) := by
          refine Below.grown (below_step (unhide HB) ?_) grow4 ?_ (unhide HO).row
          · exact below_step (drew_below _) (alloc_below _ _)
          · exact Nat.le_trans (unhide HB).size (below_step (drew_below wr) (alloc_below _ _)).size
        clear own4 grow4 hat4
        go_wp2
        exact ⟨⟨i + 1, by go_num, hlt, unhide FIN, unhide FB⟩, by simp [intOf]; omega⟩
    · obtain rfl : i = n := by omega
      have e1 : ¬ (i : Int) < (i : Int) := by omega
      obtain ⟨a', c', rfl, ht⟩ := hO.trow
      rw [firsts_length] at ht ⊢
      have FT : Hid (TRow wr a' i c' f) := trow_congr ht (fun j hj => firsts_get f hj)
      clear hO ht
      go_wp2
      go_ret
      exact ⟨a', c', rfl, unhide FT, hb⟩

/-- Two rows of numbers are alike. -/
def likeB (n m : Nat) (f g : Nat → Int) : Bool := decide (n = m ∧ ∀ i, i < n → f i = g i)

theorem likeB_true {n m : Nat} {f g : Nat → Int} : likeB n m f g = true ↔ n = m ∧ ∀ i, i < n → f i = g i := by unfold likeB; exact decide_eq_true_iff
theorem likeB_false {n m : Nat} {f g : Nat → Int} : likeB n m f g = false ↔ ¬ (n = m ∧ ∀ i, i < n → f i = g i) := by unfold likeB; exact decide_eq_false_iff_not


set_option maxHeartbeats 1000000 in
theorem lawSame_any (a a' : Option Addr) (n c n' c' : Nat) (f g : Nat → Int) (w : World) (ha : IRow w a n c f) (hb : IRow w a' n' c' g) :
    Calls Tryd.prog 35 #[.slice a n c, .slice a' n' c'] w fun e w' => e = .returned (.bool (likeB n n' f g)) ∧ ∃ k, w' = w.drewN k := by
  obtain ⟨h1, h2, h3⟩ := ha
  obtain ⟨h1', h2', h3'⟩ := hb
  by_cases hne : n = n'
  · subst hne
    have HE : Hid ((∀ i, i < n → f i = g i) → likeB n n f g = true) := fun h => likeB_true.2 ⟨rfl, h⟩
    have HN : Hid (∀ i, i < n → f i ≠ g i → likeB n n f g = false) := fun i hi h => likeB_false.2 fun ⟨_, h'⟩ => h (h' i hi)
    generalize likeB n n f g = s at *
    have H3 := hide h3
    have H3' := hide h3'
    clear h3 h3'
    go_enter Tryd.func35, Tryd.ntmps35
    go_wp2
    go_loopw [5] (fun v wr => ∃ m k : Nat, v = .int .i64 (m : Int) ∧ m ≤ n ∧ wr = w.drewN k ∧ (∀ j, j < m → f j = g j)) (fun v _ => n - (intOf v).toNat)
    case atStart => exact ⟨0, 0, rfl, Nat.zero_le _, rfl, fun j h1 => absurd h1 (Nat.not_lt_zero _)⟩
    case round =>
      obtain ⟨m, k, rfl, hm, rfl, hz⟩ := hrel
      have HZ : Hid (∀ j, j < m → f j = g j) := hz
      clear hz
      by_cases hlt : m < n
      · obtain ⟨b, o, rfl, hbl, hc⟩ := unhide H3 (by omega)
        obtain ⟨b', o', rfl, hbl', hc'⟩ := unhide H3' (by omega)
        obtain ⟨x, hx⟩ : ∃ x, f m = x := ⟨_, rfl⟩
        obtain ⟨y, hy⟩ : ∃ y, g m = y := ⟨_, rfl⟩
        have hcm := hc m hlt
        have hcm' := hc' m hlt
        have HX : Hid (f m = x) := hx
        have HY : Hid (g m = y) := hy
        rw [hx] at hcm
        rw [hy] at hcm'
        have e2 : (0 : Int) ≤ (m : Int) := by omega
        have e3 : (m : Int) < (n : Int) := by omega
        clear hc hc' H3 H3' hx hy
        by_cases hxy : x = y
        · subst hxy
          clear HE HN
          go_wp2_with fail
          go_quiet (fail)
          go_wp2
          refine ⟨⟨m + 1, k + nq, by go_num, by omega, rfl, fun j h1 => ?_⟩, ?_⟩
          · rcases Nat.lt_or_ge j m with h | h
            · exact HZ.out j h
            · rw [show j = m by omega, HX.out, HY.out]
          · simp [intOf]; omega
        · have hxb : (x != y) = true := by rw [bne_iff_ne]; exact hxy
          have hs : s = false := HN.out m hlt (by rw [HX.out, HY.out]; exact hxy)
          subst hs
          clear HE HN
          go_wp2_with fail
          go_quiet (fail)
          go_wp2
          go_ret
          exact ⟨rfl, drew2 _ _ _⟩
      · obtain rfl : m = n := by omega
        have hs : s = true := HE.out HZ.out
        subst hs
        clear HE HN H3 H3'
        go_wp2
        go_ret
        exact ⟨rfl, k, rfl⟩
  · have hs : likeB n n' f g = false := likeB_false.2 fun h => hne h.1
    rw [hs]
    clear hs h3 h3'
    have hne : ((n : Int) != (n' : Int)) = true := by rw [bne_iff_ne]; omega
    go_enter Tryd.func35, Tryd.ntmps35
    go_wp2
    go_ret
    exact ⟨rfl, 0, rfl⟩


set_option maxHeartbeats 2000000 in
theorem ints_good (G a' : Option Addr) (n c c' : Nat) (F : Nat → Int) (w : World) (ha : IRow w G n c F) (hb : IRow w a' n c' F) :
    Calls Tryd.prog 18 #[.slice G n c, .nilIface, .slice a' n c', .int .i64 0] w fun e w' => e = .returned (.bool true) ∧ Below w.heap.size w w' := by
  have HS := hide (lawSame_any G a' n c n c' F F w ha hb)
  rw [likeB_true.2 ⟨rfl, fun _ _ => rfl⟩] at HS
  clear ha hb
  go_enter Tryd.func18, Tryd.ntmps18
  go_wp2_with fail
  refine (unhide HS).mono ?_
  rintro e w1 ⟨rfl, q, rfl⟩
  go_wp2
  go_ret
  exact ⟨rfl, below_drewN _ _⟩

set_option maxHeartbeats 2000000 in
theorem ints_bad (k : Int) (hk : k ≠ 0) (w : World) (hg : ErrTy w) :
    Calls Tryd.prog 18 #[.slice none 0 0, .iface 24 (.int .i64 k), .slice none 0 0, .int .i64 k] w fun e w' => e = .returned (.bool true) ∧ Below w.heap.size w w' := by
  have HT := hide (tell_errno k w hg)
  clear hg
  go_enter Tryd.func18, Tryd.ntmps18
  go_wp2_with fail
  refine (unhide HT).mono ?_
  rintro e w1 ⟨rfl, hb⟩
  go_wp2
  go_ret
  exact ⟨rfl, hb⟩


set_option maxHeartbeats 2000000 in
theorem whole_good (x : Int) (w : World) :
    Calls Tryd.prog 23 #[.int .i64 x, .nilIface, .int .i64 x, .int .i64 0] w fun e w' => e = .returned (.bool true) ∧ Below w.heap.size w w' := by
  have e0 : (x == x) = true := by simp
  go_enter Tryd.func23, Tryd.ntmps23
  go_wp2
  go_ret
  exact ⟨rfl, Below.refl _ _⟩
set_option maxHeartbeats 2000000 in
theorem whole_bad (y k : Int) (hk : k ≠ 0) (w : World) (hg : ErrTy w) :
    Calls Tryd.prog 23 #[.int .i64 0, .iface 24 (.int .i64 k), .int .i64 y, .int .i64 k] w fun e w' => e = .returned (.bool true) ∧ Below w.heap.size w w' := by
  have HT := hide (tell_errno k w hg)
  clear hg
  go_enter Tryd.func23, Tryd.ntmps23
  go_wp2_with fail
  refine (unhide HT).mono ?_
  rintro e w1 ⟨rfl, hb⟩
  go_wp2
  go_ret
  exact ⟨rfl, hb⟩

set_option maxHeartbeats 4000000 in
theorem rcheck_any (a : Option Addr) (n c : Nat) (f : Nat → T3) (w : World) (ha : TRow w a n c f) :
    Calls Tryd.prog 12 #[.slice a n c] w fun e w' => e = .returned (.int .i64 (tcode n f)) ∧ Below w.heap.size w w' := by
  obtain ⟨h1, h2, h3⟩ := ha
  have H3 := hide h3
  clear h3
  by_cases hn : 60 < n
  · have hv : tcode n f = 4 := by unfold tcode; rw [if_pos hn]
    rw [hv]
    have hn' : (60 : Int) < (n : Int) := by omega
    go_enter Tryd.func12, Tryd.ntmps12
    go_wp2
    go_ret
    exact ⟨rfl, Below.refl _ _⟩
  have hn' : ¬ (60 : Int) < (n : Int) := by omega
  have HN := hide hn
  obtain ⟨V, hV⟩ : ∃ v, tcode n f = v := ⟨_, rfl⟩
  have HV := hide hV
  rw [hV]
  clear hV
  go_enter Tryd.func12, Tryd.ntmps12
  go_wp2
  go_loopw [10] (fun vi wr => ∃ m : Nat, vi = .int .i64 (m : Int) ∧ m ≤ n ∧ (∀ j, j < m → tbad (f j) = false) ∧ Below w.heap.size w wr) (fun vi _ => n - (intOf vi).toNat)
  case atStart => exact ⟨0, rfl, Nat.zero_le _, fun j hj => absurd hj (Nat.not_lt_zero _), Below.refl _ _⟩
  case round =>
    obtain ⟨m, rfl, hm, hj, hb⟩ := hrel
    by_cases hlt : m < n
    · obtain ⟨b, o, rfl, hbl, hc⟩ := unhide H3 (by omega)
      have ⟨k0, k1, k2⟩ := hc m hlt
      rw [← hb.cell (p := ⟨b, o + m * 3, none⟩) hbl] at k0
      rw [← hb.cell (p := ⟨b, o + m * 3 + 1, none⟩) hbl] at k1
      rw [← hb.cell (p := ⟨b, o + m * 3 + 2, none⟩) hbl] at k2
      obtain ⟨⟨x, y, z⟩, hf⟩ : ∃ t, f m = t := ⟨_, rfl⟩
      rw [hf] at k0 k1 k2
      simp only at k0 k1 k2
      have e2 : (0 : Int) ≤ (m : Int) := by omega
      have e3 : (m : Int) < (n : Int) := by omega
      have HJ := hide hj
      have HF := hide hf
      have ⟨q0, q1, q2⟩ := box3 (w := wr) (x := .int .i64 x) (y := .int .i64 y) (z := .int .i64 z) (T := 61) (Below.refl _ _)
      have HFIN := hide (below_step hb (alloc_below wr (.cells #[.int .i64 x, .int .i64 y, .int .i64 z] 61)))
      obtain ⟨W1, hW1⟩ : ∃ W, wr.alloc (.cells #[.int .i64 x, .int .i64 y, .int .i64 z] 61) = W := ⟨_, rfl⟩
      rw [hW1] at q0 q1 q2 HFIN
      clear hc H3 hb hj hf
      by_cases g0 : x < 0
      · obtain rfl : V = 2 := by have := tcode_bad (f := f) (unhide HN) hlt (by unfold tbad; rw [unhide HF]; exact decide_eq_true (by simp only; omega)); have h2 := unhide HV; omega
        go_wp2
        go_ret
        exact ⟨rfl, unhide HFIN⟩
      by_cases g1 : 1000000000 < x
      · obtain rfl : V = 2 := by have := tcode_bad (f := f) (unhide HN) hlt (by unfold tbad; rw [unhide HF]; exact decide_eq_true (by simp only; omega)); have h2 := unhide HV; omega
        go_wp2
        go_ret
        exact ⟨rfl, unhide HFIN⟩
      by_cases g2 : z < 0
      · obtain rfl : V = 2 := by have := tcode_bad (f := f) (unhide HN) hlt (by unfold tbad; rw [unhide HF]; exact decide_eq_true (by simp only; omega)); have h2 := unhide HV; omega
        go_wp2
        go_ret
        exact ⟨rfl, unhide HFIN⟩
      by_cases g3 : 1000000000 < z
      · obtain rfl : V = 2 := by have := tcode_bad (f := f) (unhide HN) hlt (by unfold tbad; rw [unhide HF]; exact decide_eq_true (by simp only; omega)); have h2 := unhide HV; omega
        go_wp2
        go_ret
        exact ⟨rfl, unhide HFIN⟩
      by_cases g4 : y < 0
      · obtain rfl : V = 2 := by have := tcode_bad (f := f) (unhide HN) hlt (by unfold tbad; rw [unhide HF]; exact decide_eq_true (by simp only; omega)); have h2 := unhide HV; omega
        go_wp2
        go_ret
        exact ⟨rfl, unhide HFIN⟩
      by_cases g5 : 10000 < y
      · obtain rfl : V = 2 := by have := tcode_bad (f := f) (unhide HN) hlt (by unfold tbad; rw [unhide HF]; exact decide_eq_true (by simp only; omega)); have h2 := unhide HV; omega
        go_wp2
        go_ret
        exact ⟨rfl, unhide HFIN⟩
      have HG : Hid (tbad (f m) = false) := by unfold tbad; rw [unhide HF]; exact decide_eq_false (by simp only; omega)
      go_wp2
      refine ⟨⟨m + 1, by go_num, hlt, fun j hj => ?_, unhide HFIN⟩, by simp [intOf]; omega⟩
      by_cases hjm : j = m
      · rw [hjm]; exact unhide HG
      · exact unhide HJ j (by omega)
    · obtain rfl : m = n := by omega
      obtain rfl : V = 0 := by have := tcode_good (unhide HN) hj; have h2 := unhide HV; omega
      clear hj
      have e3 : ¬ (m : Int) < (m : Int) := by omega
      go_wp2
      go_ret
      exact ⟨rfl, hb⟩

set_option maxHeartbeats 4000000 in
theorem rorder_any (a : Option Addr) (len c : Nat) (r : Nat → Int) (n : Int) (w : World) (ha : IRow w a len c r) (hlen : len ≤ 100000) :
    Calls Tryd.prog 15 #[.slice a len c, .int .i64 n] w fun e w' => e = .returned (.int .i64 (ocode r len n)) ∧ Below w.heap.size w w' := by
  obtain ⟨h1, h2, h3⟩ := ha
  have H3 := hide h3
  clear h3
  by_cases hne : (len : Int) = n
  case neg =>
    have hv : ocode r len n = 3 := by unfold ocode; rw [if_pos hne]
    rw [hv]
    have e0 : ((len : Int) == n) = false := by simpa using hne
    go_enter Tryd.func15, Tryd.ntmps15
    go_wp2
    go_ret
    exact ⟨rfl, Below.refl _ _⟩
  subst hne
  have hv0 : ocode r len len = oc r len len := by unfold ocode; rw [if_neg (by simp)]
  rw [hv0]
  obtain ⟨V, hV⟩ : ∃ v, oc r len len = v := ⟨_, rfl⟩
  have HV := hide hV
  rw [hV]
  clear hv0 hV
  have e00 : ((len : Int) == (len : Int)) = true := by simp
  go_enter Tryd.func15, Tryd.ntmps15
  go_wp2_with fail
  clear e00
  go_loopw [15] (fun vi wr => ∃ m : Nat, vi = .int .i64 (m : Int) ∧ m ≤ len ∧ oc r len m = 0 ∧ Below w.heap.size w wr) (fun vi _ => len - (intOf vi).toNat)
  case atStart => exact ⟨0, rfl, Nat.zero_le _, rfl, Below.refl _ _⟩
  case round =>
    obtain ⟨m, rfl, hm, hj, hb⟩ := hrel
    by_cases hlt : m < len
    · obtain ⟨b, o, rfl, hbl, hc⟩ := unhide H3 (by omega)
      have HC := hide hc
      have k0 := hc m hlt
      rw [← hb.cell (p := ⟨b, o + m, none⟩) hbl] at k0
      obtain ⟨x, hx⟩ : ∃ x, r m = x := ⟨_, rfl⟩
      rw [hx] at k0
      have e2 : (0 : Int) ≤ (m : Int) := by omega
      have e3 : (m : Int) < (len : Int) := by omega
      have HB := hide hb
      have HJ := hide hj
      have HX := hide hx
      have mc : m ≤ c := by omega
      clear hc H3 hb hj hx
      by_cases g0 : x < 0
      · obtain rfl : V = 2 := by have := oc_end (oc_range (unhide HJ) (by rw [unhide HX]; omega)) (by decide) hlt; have h2 := unhide HV; omega
        go_wp2
        go_ret
        exact ⟨rfl, unhide HB⟩
      by_cases g1 : (len : Int) ≤ x
      · obtain rfl : V = 2 := by have := oc_end (oc_range (unhide HJ) (by rw [unhide HX]; omega)) (by decide) hlt; have h2 := unhide HV; omega
        go_wp2
        go_ret
        exact ⟨rfl, unhide HB⟩
      have e6 : IntKind.i64.wrap ((m : Int) + 1) = (m : Int) + 1 := by rw [IntKind.wrap_i64]; omega
      go_wp2_with fail
      go_loopw [31] (fun vi wv => ∃ j : Nat, vi = .int .i64 (j : Int) ∧ j ≤ m ∧ (∀ i, i < j → r i ≠ x) ∧ wv = wr) (fun vi _ => m - (intOf vi).toNat)
      case atStart => exact ⟨0, rfl, Nat.zero_le _, fun i hi => absurd hi (Nat.not_lt_zero _), rfl⟩
      case round =>
        obtain ⟨j, rfl, hjm, hall, rfl⟩ := hrel
        by_cases hjl : j < m
        · have kj := unhide HC j (by omega)
          rw [← (unhide HB).cell (p := ⟨b, o + j, none⟩) (Nat.lt_of_lt_of_le (World.block_lt_of_cell? w _ kj) (Nat.le_refl _))] at kj
          obtain ⟨y, hy⟩ : ∃ y, r j = y := ⟨_, rfl⟩
          rw [hy] at kj
          have HY := hide hy
          have HALL := hide hall
          have f2 : (0 : Int) ≤ (j : Int) := by omega
          have f3 : (j : Int) < (m : Int) := by omega
          have f6 : IntKind.i64.wrap ((j : Int) + 1) = (j : Int) + 1 := by rw [IntKind.wrap_i64]; omega
          clear hy hall
          by_cases hxy : x = y
          · obtain rfl : V = 9 := by
              have h := oc_end (oc_many (unhide HJ) (by rw [unhide HX]; omega) (stood_true.2 ⟨j, hjl, by rw [unhide HX, unhide HY]; exact hxy.symm⟩)) (by decide) hlt
              have h2 := unhide HV; omega
            subst hxy
            have q1 : (x == x) = true := by simp
            go_wp2
            go_ret
            exact ⟨rfl, unhide HB⟩
          · have q1 : (x == y) = false := by simpa using hxy
            go_wp2
            refine ⟨⟨j + 1, by go_num, hjl, fun i hi => ?_, by trivial⟩, by simp [intOf]; omega⟩
            rcases Nat.lt_or_ge i j with c1 | c1
            · exact unhide HALL i c1
            · rw [show i = j by omega, unhide HY]; exact fun e => hxy e.symm
        · obtain rfl : j = m := by omega
          have f3 : ¬ (j : Int) < (j : Int) := by omega
          have HJ' : Hid (oc r len (j + 1) = 0) := by
            refine oc_good (unhide HJ) (by rw [unhide HX]; omega) ?_
            cases cs : stood r j (r j) with
            | false => rfl
            | true =>
              obtain ⟨i, h1, h2⟩ := stood_true.1 cs
              rw [unhide HX] at h2
              exact absurd h2 (hall i h1)
          clear hall
          go_wp2_with fail
          (try simp only [Exit.inBlock, Exit.then])
          (try go_wp2_with fail)
          exact ⟨⟨j + 1, by go_num, hlt, unhide HJ', unhide HB⟩, by simp [intOf]; omega⟩
    · obtain rfl : m = len := by omega
      obtain rfl : V = 0 := by have h2 := unhide HV; omega
      clear hj
      have e3 : ¬ (m : Int) < (m : Int) := by omega
      go_wp2
      go_ret
      exact ⟨rfl, hb⟩
end Go.Proofs.YtmpigipeajdgcaaDoor
