/- The document's own: when each begins, of several servers. -/
import Derived.Test.YteflciddadjilaaDoorP30
import Derived.Deep.RegionLaw
namespace Go.Proofs.YteflciddadjilaaDoor
open Go.RowKit Go.Sort Sim

/-- A row of ints of the call's own. -/
def OwnL (w : World) (B : Nat) (v : Value) (xs : List Int) : Prop := w.ownsRow B 3 1 v xs.length (xs.map (.int .i64 ·))
theorem OwnL.keep {w w' : World} {B : Nat} {v : Value} {xs : List Int} (h : OwnL w B v xs) (hb : Below w.heap.size w w') : OwnL w' B v xs := by
  refine ⟨h.1, ?_⟩
  rcases h.2 with h | ⟨g, cap, cur, hv, hg, hh, h1⟩
  · exact Or.inl h
  · exact Or.inr ⟨g, cap, cur, hv, hg, by rw [hb.block g (Array.getElem?_eq_some_iff.1 hh).1]; exact hh, h1⟩
theorem OwnL.start (w : World) (B : Nat) : OwnL w B (.slice none 0 0) [] := World.ownsRow_nil _ _ _ _
theorem OwnL.row {w : World} {B : Nat} {v : Value} {xs : List Int} (h : OwnL w B v xs) : ∀ k, v.ownBlock = some k → B ≤ k := by
  intro k hk
  obtain ⟨h1, ⟨rfl, h2⟩ | ⟨g, cap, cur, rfl, hb, _⟩⟩ := h
  · cases hk
  · obtain rfl : g = k := Option.some.inj hk
    exact hb
theorem OwnL.irow {w : World} {B : Nat} {v : Value} {xs : List Int} (h : OwnL w B v xs) : ∃ a c, v = .slice a xs.length c ∧ IRow w a xs.length c (fun j => xs[j]!) := by
  rcases h.2 with ⟨rfl, h0⟩ | ⟨g, cap, cur, rfl, hb, hg, h1, h2, h3, h4⟩
  · exact ⟨none, 0, by rw [h0], ⟨by omega, by decide, fun h => by omega⟩⟩
  · refine ⟨_, cap, rfl, ⟨h1, by unfold maxLen at h2; exact h2, fun _ => ⟨g, 0, rfl, (Array.getElem?_eq_some_iff.1 hg).1, fun j hj => ?_⟩⟩⟩
    have e1 : (xs.map (Value.int .i64 ·))[j]? = cur[j]? := by
      rw [← h4, List.getElem?_take_of_lt (by omega)]
      simp
    simp only [World.cell?, hg, Nat.zero_add]
    rw [← e1]
    simp [hj]


theorem news_int (w : World) (x : Int) (T : TypeId) : ∀ j u, [Value.int .i64 x][j]? = some u → (w.alloc (.cells #[.int .i64 x] T)).cell? ((⟨w.heap.size, 0, none⟩ : Addr).add j) = some u :=
  World.news_of_block (cs := #[.int .i64 x]) (t := T) (fr := (0, 0)) (heap_alloc_new w _)
theorem one_int (x : Int) : ∀ u ∈ [Value.int .i64 x], u.oneCell' = true := by
  intro u hu
  simp only [List.mem_cons, List.not_mem_nil, or_false] at hu
  rw [hu]; rfl
/-- A row with one more. -/
theorem OwnL.push {w' : World} {B g cap : Nat} {xs : List Int} {x : Int} (own : w'.ownsRow B 3 1 (.slice (some ⟨g, 0, none⟩) (xs.length + 1) cap) (xs.length + 1) (xs.map (Value.int .i64 ·) ++ [.int .i64 x])) : OwnL w' B (.slice (some ⟨g, 0, none⟩) (xs.length + 1) cap) (xs ++ [x]) := by
  unfold OwnL
  rw [List.map_append, List.length_append]
  exact own
theorem OwnL.grow {w wr w' : World} {B : Nat} {v : Value} {xs : List Int} (h : OwnL wr B v xs) (hb : Below w.heap.size w wr) (hB : w.heap.size ≤ B) {W : World} (hW : Below wr.heap.size wr W) (hg : W.grownBy w' v.ownBlock) : Below w.heap.size w w' :=
  Below.grown (below_step hb hW) hg (Nat.le_trans hb.size hW.size) (fun k hk => Nat.le_trans hB (h.row k hk))

/-- Block g holds s numbers, and maybe room behind them. -/
def Fr (w : World) (g s : Nat) (F : Nat → Int) : Prop := ∃ cur : Array Value, w.heap[g]? = some (.cells cur 3) ∧ ∀ j, j < s → cur[j]? = some (.int .i64 (F j))
theorem Fr.lt {w : World} {g s : Nat} {F : Nat → Int} (h : Fr w g s F) : g < w.heap.size := by
  obtain ⟨cur, h1, _⟩ := h
  exact (Array.getElem?_eq_some_iff.1 h1).1
theorem Fr.kept {w w' : World} {g s : Nat} {F : Nat → Int} (h : Fr w g s F) (hk : w'.heap[g]? = w.heap[g]?) : Fr w' g s F := by
  obtain ⟨cur, h1, h2⟩ := h
  exact ⟨cur, by rw [hk]; exact h1, h2⟩
theorem Fr.keep {w w' : World} {g s : Nat} {F : Nat → Int} (h : Fr w g s F) (hb : Below w.heap.size w w') : Fr w' g s F := h.kept (hb.block g h.lt)
theorem Fr.cell {w : World} {g s : Nat} {F : Nat → Int} (h : Fr w g s F) {j : Nat} (hj : j < s) : w.cell? ⟨g, j, none⟩ = some (.int .i64 (F j)) := by
  obtain ⟨cur, h1, h2⟩ := h
  simp only [World.cell?, h1]
  exact h2 j hj
theorem Fr.free {w : World} {g s : Nat} {F : Nat → Int} (h : Fr w g s F) (j : Nat) : w.frozen? ⟨g, j, none⟩ = false := by
  obtain ⟨cur, h1, _⟩ := h
  simp [World.frozen?, h1]
theorem Fr.set {w : World} {g s : Nat} {F : Nat → Int} (h : Fr w g s F) {p : Nat} (hp : p < s) (x : Int) : Fr (w.setCell ⟨g, p, none⟩ (.int .i64 x)) g s (updI F p x) := by
  obtain ⟨cur, h1, h2⟩ := h
  have hps : p < cur.size := (Array.getElem?_eq_some_iff.1 (h2 p hp)).1
  refine ⟨cur.setIfInBounds p (.int .i64 x), ?_, fun j hj => ?_⟩
  · rw [setCell_eq]
    simp only [mapBlock, Array.getElem?_modify, h1, if_true, Option.map_some, onCells]
  · unfold updI
    by_cases e : j = p
    · subst e; rw [if_pos rfl]; simp [hps]
    · rw [if_neg e, Array.getElem?_setIfInBounds_ne (fun h => e h.symm)]; exact h2 j hj
theorem Fr.of_own {w : World} {B : Nat} {v : Value} {xs : List Int} (h : OwnL w B v xs) (h0 : 0 < xs.length) : ∃ g c, v = .slice (some ⟨g, 0, none⟩) xs.length c ∧ B ≤ g ∧ xs.length ≤ c ∧ c ≤ 9223372036854775807 ∧ Fr w g xs.length (fun j => xs[j]!) := by
  rcases h.2 with ⟨rfl, e⟩ | ⟨g, cap, cur, rfl, hb, hg, h1, h2, h3, h4⟩
  · omega
  · refine ⟨g, cap, rfl, hb, h1, by unfold maxLen at h2; exact h2, cur, hg, fun j hj => ?_⟩
    have e1 : (xs.map (Value.int .i64 ·))[j]? = cur[j]? := by
      rw [← h4, List.getElem?_take_of_lt (by omega)]
      simp
    rw [← e1]
    simp [hj]
theorem OwnL.other {w : World} {B : Nat} {v : Value} {xs : List Int} (h : OwnL w B v xs) {g : Nat} (hg : ∀ k, v.ownBlock = some k → k ≠ g) (p : Nat) (x : Value) : OwnL (w.setCell ⟨g, p, none⟩ x) B v xs := by
  refine ⟨h.1, ?_⟩
  rcases h.2 with h | ⟨g', cap, cur, hv, hb, hh, h1⟩
  · exact Or.inl h
  · exact Or.inr ⟨g', cap, cur, hv, hb, by rw [Below.heap_setCell _ _ _ _ (hg g' (by rw [hv]; rfl))]; exact hh, h1⟩
def bgl (s : Nat) (f : Nat → T3) (k : Nat) : List Int := (List.range k).map (mbg s f)
theorem bgl_length (s : Nat) (f : Nat → T3) (k : Nat) : (bgl s f k).length = k := by simp [bgl]
theorem bgl_succ (s : Nat) (f : Nat → T3) (k : Nat) : bgl s f (k + 1) = bgl s f k ++ [mbg s f k] := by unfold bgl; rw [List.range_succ, List.map_append]; rfl
theorem bgl_get (s : Nat) (f : Nat → T3) {k i : Nat} (h : i < k) : (bgl s f k)[i]! = mbg s f i := by simp [bgl, h]
theorem rep_succ (i : Nat) : List.replicate (i + 1) (0 : Int) = List.replicate i 0 ++ [0] := List.replicate_succ'

set_option maxHeartbeats 4000000 in
set_option maxRecDepth 100000 in
theorem begins_any (a : Option Addr) (n c : Nat) (f : Nat → T3) (s : Nat) (hs1 : 1 ≤ s) (hs2 : s ≤ 20) (w : World) (ha : TRow w a n c f) (hg : Good n f) :
    Calls Tryd.prog 13 #[.slice a n c, .int .i64 (s : Int)] w fun e w' => ∃ a' c', e = .returned (.slice a' n c') ∧ IRow w' a' n c' (mbg s f) ∧ Below w.heap.size w w' := by
  obtain ⟨ti, hi, hz0, hz1, hz2⟩ := info_parts Tryd.infoI
  have HI := hide hi
  have HZ := hide hz0
  have HA := hide ha
  have HG := hide hg
  have hn60 := hg.few
  clear hi hz0 ha hg
  go_enter Tryd.func13, Tryd.ntmps13
  go_wp2_with fail
  go_loopw [6, 13] (fun vo vi wr => ∃ i : Nat, vi = .int .i64 (i : Int) ∧ i ≤ s ∧ OwnL wr w.heap.size vo (List.replicate i 0) ∧ Below w.heap.size w wr) (fun _ vi _ => s - (intOf vi).toNat)
  case atStart => exact ⟨0, rfl, Nat.zero_le _, OwnL.start _ _, Below.refl _ _⟩
  case round =>
    obtain ⟨i, rfl, hi, hO, hb⟩ := hrel
    by_cases hlt : i < s
    · have e1 : (i : Int) < (s : Int) := by omega
      have O4 := hide (hO.keep (alloc_below wr (.cells #[.int .i64 0] 3)))
      have HO := hide hO
      have HB := hide hb
      have hL : (List.replicate i (0 : Int)).length = i := List.length_replicate
      have Q63 : Hid ((List.replicate i (0 : Int)).length + 1 ≤ maxLen) := by show _ ≤ _; rw [hL]; unfold maxLen; omega
      have Q8 : Hid (((List.replicate i (0 : Int)).length + 1) * 8 ≤ 140737488355328) := by show _ ≤ _; rw [hL]; omega
      have QB := hide (below_step hb (alloc_below wr (.cells #[.int .i64 0] 3))).size
      have HL := hide hL
      clear hO hb hL
      go_wp2_with (at_builtin; go_loud (refine wpList_append_lies _ rfl _ _ _ rfl w.heap.size 3 ti (.int .i64 0) 1 8 Tryd.underlying27 (unhide HI) (unhide HZ) hz1 hz2 rfl (by decide) _ (List.replicate i (0 : Int)).length ((List.replicate i (0 : Int)).map (Value.int .i64 ·)) rfl (unhide O4) ⟨wr.heap.size, 0, none⟩ 1 1 [.int .i64 0] rfl rfl (news_int wr 0 _) (one_int 0) (by decide) (unhide Q63) (unhide Q8) (unhide QB) (wr.heap.size + 1) (alloc_size _ _) ?_; intro g5 cap5 w5 own5 grow5 hat5 hlt5; have PUSH : Hid (OwnL w5 w.heap.size (.slice (some ⟨g5, 0, none⟩) ((List.replicate i (0 : Int)).length + 1) cap5) (List.replicate (i + 1) 0)) := (by show OwnL _ _ _ _; rw [rep_succ]; exact OwnL.push own5); have PB := hide ((unhide HO).grow (unhide HB) (Nat.le_refl _) (alloc_below _ _) grow5); clear own5 grow5 hat5 hlt5))
      exact ⟨⟨i + 1, by go_num, hlt, by have h := unhide PUSH; rw [unhide HL] at h; exact h, unhide PB⟩, by simp [intOf]; omega⟩
    · obtain rfl : i = s := by omega
      have e1 : ¬ (i : Int) < (i : Int) := by omega
      obtain ⟨g, cg, rfl, hgB, hc1, hc2, hF⟩ := Fr.of_own hO (by rw [List.length_replicate]; omega)
      rw [List.length_replicate] at hF hc1 ⊢
      have HF : Hid (Fr wr g i (mfr i f 0)) := by
        obtain ⟨cur, h1, h2⟩ := hF
        exact ⟨cur, h1, fun j hj => by rw [h2 j hj]; show some (Value.int .i64 (List.replicate i (0 : Int))[j]!) = _; rw [show (List.replicate i (0 : Int))[j]! = 0 by simp [hj]]; rfl⟩
      have HB := hide hb
      have HGB := hide hgB
      clear hO hb hF hgB
      go_wp2_with fail
      go_loopw [5, 21] (fun vo vi wv => ∃ m : Nat, vi = .int .i64 (m : Int) ∧ m ≤ n ∧ OwnL wv w.heap.size vo (bgl i f m) ∧ (∀ k, vo.ownBlock = some k → k ≠ g) ∧ Fr wv g i (mfr i f m) ∧ Below w.heap.size w wv) (fun _ vi _ => n - (intOf vi).toNat)
      case atStart => exact ⟨0, rfl, Nat.zero_le _, OwnL.start _ _, (fun k hk => by cases hk), unhide HF, unhide HB⟩
      case round =>
        obtain ⟨m, rfl, hm, hO, hne, hF, hb⟩ := hrel
        by_cases hmn : m < n
        · obtain ⟨b, o, rfl, hbl, hc3⟩ := ((unhide HA).below hb).2.2 (by omega)
          have ⟨k0, k1, k2⟩ := hc3 m hmn
          have hz := (unhide HG).size m hmn
          have hat := (unhide HG).at0 m hmn
          have hmb := mfr_bd (unhide HG) i m (by omega)
          obtain ⟨⟨x, y, z⟩, hf⟩ : ∃ t, f m = t := ⟨_, rfl⟩
          rw [hf] at k0 k1 k2 hz hat
          simp only at k0 k1 k2 hz hat
          have b1 := alloc_below wr (.cells #[.int .i64 x, .int .i64 y, .int .i64 z] 50)
          have ⟨q0, q1, q2⟩ := box3 (w := wr) (x := .int .i64 x) (y := .int .i64 y) (z := .int .i64 z) (T := 50) (Below.refl _ _)
          obtain ⟨W, hW⟩ : ∃ W, wr.alloc (.cells #[.int .i64 x, .int .i64 y, .int .i64 z] 50) = W := ⟨_, rfl⟩
          rw [hW] at q0 q1 q2 b1
          obtain ⟨bx, hbx⟩ : ∃ g, wr.heap.size = g := ⟨_, rfl⟩
          have hbxn : bx < W.heap.size := by rw [← hW, alloc_size, hbx]; omega
          have hgbx : g ≠ bx := by have := hF.lt; omega
          rw [hbx] at q0 q1 q2
          have HO1 := hide (hO.keep b1)
          have HF1 := hide (hF.keep b1)
          have HNE := hide hne
          have HB1 := hide (below_step hb b1)
          have e1 : (m : Int) < (n : Int) := by omega
          have HMB := hide hmb
          have HFM := hide hf
          have HGX := hide hgbx
          have HBX := hide hbxn
          have HQ0 := hide q0
          have HQ1 := hide q1
          clear hc3 hO hF hb hf b1 hne hmb hgbx hbxn
          go_wp2_with fail
          clear hW hbx k0 k1 k2 q0 q1 q2
          go_loopw [9, 27] (fun vp vi wj => ∃ j : Nat, vi = .int .i64 (j : Int) ∧ vp = .int .i64 ((lst (mfr i f m) j : Nat) : Int) ∧ j ≤ i ∧ Below W.heap.size W wj) (fun _ vi _ => i - (intOf vi).toNat)
          case atStart => exact ⟨0, rfl, rfl, Nat.zero_le _, Below.refl _ _⟩
          case round =>
            obtain ⟨j, rfl, rfl, hj, bw⟩ := hrel
            have HBW := hide bw
            have O := (unhide HF1).keep bw
            by_cases hlj : j < i
            · have hl := lst_le (mfr i f m) j
              have g0 := O.cell hlj
              have g1 := O.cell (j := lst (mfr i f m) j) (by omega)
              obtain ⟨p, hp⟩ : ∃ p, lst (mfr i f m) j = p := ⟨_, rfl⟩
              rw [hp] at g1 hl ⊢
              have e4 : (j : Int) < (i : Int) := by omega
              have e5 : (0 : Int) ≤ (j : Int) := by omega
              have e6 : (p : Int) < (i : Int) := by omega
              obtain ⟨x1, hx⟩ : ∃ x, mfr i f m j = x := ⟨_, rfl⟩
              obtain ⟨y1, hy⟩ : ∃ x, mfr i f m p = x := ⟨_, rfl⟩
              rw [hx] at g0
              rw [hy] at g1
              by_cases hc : x1 < y1
              · have FIN : Hid (lst (mfr i f m) (j + 1) = j) := by show (if mfr i f m j < mfr i f m (lst (mfr i f m) j) then j else lst (mfr i f m) j) = j; rw [hp, hx, hy, if_pos hc]
                clear O bw hl hp hx hy
                go_wp2_with fail
                go_quiet (fail)
                go_wp2
                exact ⟨⟨j + 1, by go_num, by rw [unhide FIN], hlj, below_step (unhide HBW) (by first | exact below_drewN _ _ | exact drew_below _)⟩, by simp [intOf]; omega⟩
              · have FIN : Hid (lst (mfr i f m) (j + 1) = p) := by show (if mfr i f m j < mfr i f m (lst (mfr i f m) j) then j else lst (mfr i f m) j) = p; rw [hp, hx, hy, if_neg hc]
                clear O bw hl hp hx hy
                go_wp2_with fail
                go_quiet (fail)
                go_wp2
                exact ⟨⟨j + 1, by go_num, by rw [unhide FIN], hlj, below_step (unhide HBW) (by first | exact below_drewN _ _ | exact drew_below _)⟩, by simp [intOf]; omega⟩
            · obtain rfl : j = i := by omega
              have e4 : ¬ (j : Int) < (j : Int) := by omega
              obtain ⟨p, hp⟩ : ∃ p, lst (mfr j f m) j = p := ⟨_, rfl⟩
              have hps : p < j := by rw [← hp]; exact lst_lt _ (by omega)
              rw [hp]
              obtain ⟨u, hu⟩ : ∃ u, mfr j f m p = u := ⟨_, rfl⟩
              have hmp := unhide HMB p
              rw [hu] at hmp
              have g2 := O.cell hps
              rw [hu] at g2
              have g2f := O.free p
              have q0 := unhide HQ0
              have q1 := unhide HQ1
              rw [← bw.cell (p := ⟨bx, 0, none⟩) (unhide HBX)] at q0
              rw [← bw.cell (p := ⟨bx, 1, none⟩) (unhide HBX)] at q1
              have e5 : (0 : Int) ≤ (p : Int) := by omega
              have e6 : (p : Int) < (j : Int) := by omega
              have HFO := hide O
              have HOO := hide ((unhide HO1).keep bw)
              have HBB := hide (below_step (unhide HB1) bw)
              have HL := hide (bgl_length j f m)
              have hgE : (unhide HGB : w.heap.size ≤ g) = unhide HGB := rfl
              clear O bw hgE
              by_cases hc : u < x
              · have w1 : IntKind.i64.wrap (x + y) = x + y := by rw [IntKind.wrap_i64]; omega
                have hbg : mbg j f m = x := by unfold mbg; rw [hp, hu, unhide HFM]; show max x u = _; omega
                have hfr : mfr j f (m + 1) = updI (mfr j f m) p (x + y) := by
                  show updI (mfr j f m) (lst (mfr j f m) j) (max (f m).1 (mfr j f m (lst (mfr j f m) j)) + (f m).2.1) = _
                  rw [hp, hu, unhide HFM]
                  show updI _ _ (max x u + y) = _
                  rw [show max x u = x by omega]
                have HBG : Hid (bgl j f (m + 1) = bgl j f m ++ [x]) := by show _ = _; rw [bgl_succ, hbg]
                have HFR := hide hfr
                have b6 := ((unhide HBB).setCell (p := ⟨g, p, none⟩) (unhide HGB) (.int .i64 (x + y)))
                have f6 := ((unhide HFO).set hps (x + y))
                have o6 := ((unhide HOO).other (unhide HNE) p (.int .i64 (x + y)))
                obtain ⟨W6, hW6⟩ : ∃ V, wr.setCell ⟨g, p, none⟩ (.int .i64 (x + y)) = V := ⟨_, rfl⟩
                rw [hW6] at b6 f6 o6
                have b7 := alloc_below W6 (.cells #[.int .i64 x] 3)
                have O7 := hide (o6.keep b7)
                have F7 := hide (f6.keep b7)
                have B7 := hide (below_step b6 b7)
                have Q63 : Hid ((bgl j f m).length + 1 ≤ maxLen) := by show _ ≤ _; rw [unhide HL]; unfold maxLen; omega
                have Q8 : Hid (((bgl j f m).length + 1) * 8 ≤ 140737488355328) := by show _ ≤ _; rw [unhide HL]; omega
                have QB := hide (unhide B7).size
                clear hp hu hbg hfr b6 f6 o6 b7 hmp hz hat
                go_wp2_with (at_builtin; go_loud (refine wpList_append_lies _ rfl _ _ _ rfl w.heap.size 3 ti (.int .i64 0) 1 8 Tryd.underlying27 (unhide HI) (unhide HZ) hz1 hz2 rfl (by decide) _ (bgl j f m).length ((bgl j f m).map (Value.int .i64 ·)) rfl (unhide O7) ⟨W6.heap.size, 0, none⟩ 1 1 [.int .i64 x] rfl rfl (news_int W6 x _) (one_int x) (by decide) (unhide Q63) (unhide Q8) (unhide QB) (W6.heap.size + 1) (alloc_size _ _) ?_; intro g5 cap5 w5 own5 grow5 hat5 hlt5; have PUSH : Hid (OwnL w5 w.heap.size (.slice (some ⟨g5, 0, none⟩) ((bgl j f m).length + 1) cap5) (bgl j f (m + 1))) := (by show OwnL _ _ _ _; rw [unhide HBG]; exact OwnL.push own5); have PB := hide (Below.grown (unhide B7) grow5 (unhide QB) (fun k hk => (unhide O7).row k hk)); have PF : Hid (Fr w5 g j (mfr j f (m + 1))) := (by show Fr _ _ _ _; rw [unhide HFR]; exact (unhide F7).kept (grow5.block g (unhide F7).lt (fun e => unhide HNE g e.symm rfl))); have PN : Hid (g5 ≠ g) := (hat5.elim (fun h => unhide HNE g5 h) (fun h => by have := (unhide F7).lt; rw [alloc_size] at this; exact (by omega : g5 ≠ g))); clear own5 grow5 hat5 hlt5))
                exact ⟨⟨m + 1, by go_num, hmn, unhide PUSH, (fun k hk => by obtain rfl : g5 = k := Option.some.inj hk; exact unhide PN), unhide PF, unhide PB⟩, by simp [intOf]; omega⟩
              · have w1 : IntKind.i64.wrap (u + y) = u + y := by rw [IntKind.wrap_i64]; omega
                have hbg : mbg j f m = u := by unfold mbg; rw [hp, hu, unhide HFM]; show max x u = _; omega
                have hfr : mfr j f (m + 1) = updI (mfr j f m) p (u + y) := by
                  show updI (mfr j f m) (lst (mfr j f m) j) (max (f m).1 (mfr j f m (lst (mfr j f m) j)) + (f m).2.1) = _
                  rw [hp, hu, unhide HFM]
                  show updI _ _ (max x u + y) = _
                  rw [show max x u = u by omega]
                have HBG : Hid (bgl j f (m + 1) = bgl j f m ++ [u]) := by show _ = _; rw [bgl_succ, hbg]
                have HFR := hide hfr
                have b6 := ((unhide HBB).setCell (p := ⟨g, p, none⟩) (unhide HGB) (.int .i64 (u + y)))
                have f6 := ((unhide HFO).set hps (u + y))
                have o6 := ((unhide HOO).other (unhide HNE) p (.int .i64 (u + y)))
                obtain ⟨W6, hW6⟩ : ∃ V, wr.setCell ⟨g, p, none⟩ (.int .i64 (u + y)) = V := ⟨_, rfl⟩
                rw [hW6] at b6 f6 o6
                have b7 := alloc_below W6 (.cells #[.int .i64 u] 3)
                have O7 := hide (o6.keep b7)
                have F7 := hide (f6.keep b7)
                have B7 := hide (below_step b6 b7)
                have Q63 : Hid ((bgl j f m).length + 1 ≤ maxLen) := by show _ ≤ _; rw [unhide HL]; unfold maxLen; omega
                have Q8 : Hid (((bgl j f m).length + 1) * 8 ≤ 140737488355328) := by show _ ≤ _; rw [unhide HL]; omega
                have QB := hide (unhide B7).size
                clear hp hu hbg hfr b6 f6 o6 b7 hmp hz hat
                go_wp2_with (at_builtin; go_loud (refine wpList_append_lies _ rfl _ _ _ rfl w.heap.size 3 ti (.int .i64 0) 1 8 Tryd.underlying27 (unhide HI) (unhide HZ) hz1 hz2 rfl (by decide) _ (bgl j f m).length ((bgl j f m).map (Value.int .i64 ·)) rfl (unhide O7) ⟨W6.heap.size, 0, none⟩ 1 1 [.int .i64 u] rfl rfl (news_int W6 u _) (one_int u) (by decide) (unhide Q63) (unhide Q8) (unhide QB) (W6.heap.size + 1) (alloc_size _ _) ?_; intro g5 cap5 w5 own5 grow5 hat5 hlt5; have PUSH : Hid (OwnL w5 w.heap.size (.slice (some ⟨g5, 0, none⟩) ((bgl j f m).length + 1) cap5) (bgl j f (m + 1))) := (by show OwnL _ _ _ _; rw [unhide HBG]; exact OwnL.push own5); have PB := hide (Below.grown (unhide B7) grow5 (unhide QB) (fun k hk => (unhide O7).row k hk)); have PF : Hid (Fr w5 g j (mfr j f (m + 1))) := (by show Fr _ _ _ _; rw [unhide HFR]; exact (unhide F7).kept (grow5.block g (unhide F7).lt (fun e => unhide HNE g e.symm rfl))); have PN : Hid (g5 ≠ g) := (hat5.elim (fun h => unhide HNE g5 h) (fun h => by have := (unhide F7).lt; rw [alloc_size] at this; exact (by omega : g5 ≠ g))); clear own5 grow5 hat5 hlt5))
                exact ⟨⟨m + 1, by go_num, hmn, unhide PUSH, (fun k hk => by obtain rfl : g5 = k := Option.some.inj hk; exact unhide PN), unhide PF, unhide PB⟩, by simp [intOf]; omega⟩
        · obtain rfl : m = n := by omega
          have e1 : ¬ (m : Int) < (m : Int) := by omega
          obtain ⟨a', c', rfl, hI⟩ := hO.irow
          rw [bgl_length] at hI ⊢
          have FI : Hid (IRow wr a' m c' (mbg i f)) := by
            obtain ⟨i1, i2, i3⟩ := hI
            refine ⟨i1, i2, fun h0 => ?_⟩
            obtain ⟨b, o, ea, hlt, hc⟩ := i3 h0
            exact ⟨b, o, ea, hlt, fun j hj => by rw [← bgl_get i f hj]; exact hc j hj⟩
          have HBB := hide hb
          clear hO hF hb hI hne
          go_wp2
          go_ret
          exact ⟨a', c', rfl, unhide FI, unhide HBB⟩
end Go.Proofs.YteflciddadjilaaDoor
