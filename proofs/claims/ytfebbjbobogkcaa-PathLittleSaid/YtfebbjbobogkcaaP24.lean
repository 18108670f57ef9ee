/- PathLittle: the walk. -/
import Derived.Test.YtfebbjbobogkcaaP23
import Derived.Deep.RegionLaw
namespace Go.Proofs.Ytfebbjbobogkcaa
open Go.RowKit Go.Sort Sim

/-- A row of ints of the call's own. -/
def OwnL (w : World) (B : Nat) (v : Value) (xs : List Int) : Prop := w.ownsRow B 3 1 v xs.length (xs.map (.int .i64 ·))
theorem OwnL.keep {w w' : World} {B : Nat} {v : Value} {xs : List Int} (h : OwnL w B v xs) (hb : Below w.heap.size w w') : OwnL w' B v xs := by
  refine ⟨h.1, ?_⟩
  rcases h.2 with h | ⟨g, cap, cur, hv, hg, hh, h1⟩
  · exact Or.inl h
  · exact Or.inr ⟨g, cap, cur, hv, hg, by rw [hb.block g (Array.getElem?_eq_some_iff.1 hh).1]; exact hh, h1⟩
theorem OwnL.start (w : World) (B : Nat) : OwnL w B (.slice none 0 0) [] := World.ownsRow_nil _ _ _ _
theorem OwnL.row {w : World} {B : Nat} {v : Value} {xs : List Int} (h : OwnL w B v xs) : ∀ k, v.ownBlock = some k → B ≤ k := by
  intro k hk
  obtain ⟨h1, ⟨rfl, h2⟩ | ⟨g, cap, cur, rfl, hb, _⟩⟩ := h
  · cases hk
  · obtain rfl : g = k := Option.some.inj hk
    exact hb
theorem OwnL.irow {w : World} {B : Nat} {v : Value} {xs : List Int} (h : OwnL w B v xs) : ∃ a c, v = .slice a xs.length c ∧ IRow w a xs.length c (fun j => xs[j]!) := by
  rcases h.2 with ⟨rfl, h0⟩ | ⟨g, cap, cur, rfl, hb, hg, h1, h2, h3, h4⟩
  · exact ⟨none, 0, by rw [h0], ⟨by omega, by decide, fun h => by omega⟩⟩
  · refine ⟨_, cap, rfl, ⟨h1, by unfold maxLen at h2; exact h2, fun _ => ⟨g, 0, rfl, (Array.getElem?_eq_some_iff.1 hg).1, fun j hj => ?_⟩⟩⟩
    have e1 : (xs.map (Value.int .i64 ·))[j]? = cur[j]? := by
      rw [← h4, List.getElem?_take_of_lt (by omega)]
      simp
    simp only [World.cell?, hg, Nat.zero_add]
    rw [← e1]
    simp [hj]

def tms (A E : Nat → Int) (i : Nat) : List Int := (List.range i).flatMap fun j => [A j, E j]
theorem tms_succ (A E : Nat → Int) (i : Nat) : tms A E (i + 1) = tms A E i ++ [A i, E i] := by unfold tms; rw [List.range_succ, List.flatMap_append]; simp
theorem tms_length (A E : Nat → Int) : ∀ i, (tms A E i).length = i * 2
  | 0 => rfl
  | i + 1 => by rw [tms_succ, List.length_append, tms_length A E i]; simp; omega
theorem tms_get (A E : Nat → Int) {j : Nat} : ∀ {i : Nat}, j < i → (tms A E i)[j * 2]! = A j ∧ (tms A E i)[j * 2 + 1]! = E j
  | i + 1, h => by
    have hl := tms_length A E i
    rw [tms_succ]
    rcases Nat.lt_or_ge j i with c | c
    · have ih := tms_get A E c
      rw [← ih.1, ← ih.2]
      constructor
      · rw [List.getElem!_eq_getElem?_getD, List.getElem!_eq_getElem?_getD, List.getElem?_append_left (by omega)]
      · rw [List.getElem!_eq_getElem?_getD, List.getElem!_eq_getElem?_getD, List.getElem?_append_left (by omega)]
    · obtain rfl : j = i := by omega
      constructor
      · rw [List.getElem!_eq_getElem?_getD, List.getElem?_append_right (by omega), hl, show j * 2 - j * 2 = 0 by omega]; rfl
      · rw [List.getElem!_eq_getElem?_getD, List.getElem?_append_right (by omega), hl, show j * 2 + 1 - j * 2 = 1 by omega]; rfl
theorem tms_nonneg {A E : Nat → Int} {n : Nat} (h : ∀ j, j < n → 0 ≤ A j ∧ 0 ≤ E j) (k : Nat) : 0 ≤ (tms A E n)[k]! := by
  rcases Nat.lt_or_ge k (n * 2) with c | c
  · have hj : k / 2 < n := by omega
    have hh := h (k / 2) hj
    have hg := tms_get A E hj
    rcases Nat.mod_two_eq_zero_or_one k with e | e
    · rw [show k = k / 2 * 2 by omega, hg.1]; exact hh.1
    · rw [show k = k / 2 * 2 + 1 by omega, hg.2]; exact hh.2
  · have hl := tms_length A E n
    rw [List.getElem!_eq_getElem?_getD, List.getElem?_eq_none (by omega)]
    exact Int.le_refl _
theorem news_two (w : World) (p q : Value) (T : TypeId) : ∀ j u, [p, q][j]? = some u → (w.alloc (.cells #[p, q] T)).cell? ((⟨w.heap.size, 0, none⟩ : Addr).add j) = some u :=
  World.news_of_block (cs := #[p, q]) (t := T) (fr := (0, 0)) (heap_alloc_new w _)

theorem nxf_bd {T : Nat → Int} (hT : ∀ k, 0 ≤ T k) {M : Nat} (hb : ∀ k, k < M → T k ≤ 61000000000) (i : Nat) {m : Nat} (hm : m ≤ M) : -1 ≤ nxf T i m ∧ nxf T i m ≤ 61000000000 := by
  rcases nxf_spec hT i m with ⟨h1, _⟩ | ⟨k, hk, h1, _, _⟩
  · omega
  · have := hb k (by omega)
    have := hT k
    omega
theorem stepv_bd {T : Nat → Int} (hT : ∀ k, 0 ≤ T k) {M : Nat} (hb : ∀ k, k < M → T k ≤ 61000000000) {i : Nat} (hi : i < M) : -61000000000 ≤ stepv T M i ∧ stepv T M i ≤ 61000000000 := by
  have h1 := nxf_bd hT hb i (Nat.le_refl M)
  have h2 := hT i
  have h3 := hb i hi
  unfold stepv
  split <;> omega

set_option maxHeartbeats 8000000 in
set_option maxRecDepth 100000 in
theorem pathLittle_any (a : Option Addr) (n c : Nat) (f : Nat → T3) (x : Int) (w : World) (ha : TRow w a n c f) :
    Calls Try.prog 5 #[.slice a n c, .int .i64 x] w fun e w' => e = .returned (.bool true) ∧ Below w.heap.size w w' := by
  have hc1 := ha.1
  have hc2 := ha.2.1
  by_cases hn : (25 : Int) < (n : Int)
  · go_enter Try.func5, Try.ntmps5
    go_wp2
    go_ret
    exact ⟨rfl, Below.refl _ _⟩
  have HA := hide ha
  have HP1 := hide (pick_any x 6 (by decide) (by decide) w)
  clear ha
  go_enter Try.func5, Try.ntmps5
  go_wp2_with fail
  refine (unhide HP1).mono ?_
  rintro e w0 ⟨k1, rfl, hk1, hw⟩
  obtain rfl := hw.symm
  clear HP1
  by_cases hj : jcode n f = 0
  · have HJ := hide hj
    have HR1 : Hid (Calls Try.prog 15 #[.slice a n c, .int .i64 (1 + (k1 : Int))] w fun e w' => ∃ v t, e = .returned (.tuple #[v, .nilIface]) ∧ Done (qOf n f (k1 + 1)) t ∧ OwnP w' w.heap.size v (pcsT (sim (qOf n f (k1 + 1)) t).ps) ∧ Below w.heap.size w w') := by
      have h := run_any a n c f (k1 + 1) w (unhide HA) hj (by omega) (by omega)
      rw [show ((k1 + 1 : Nat) : Int) = 1 + (k1 : Int) by omega] at h
      exact h
    clear hj
    go_wp2_with fail
    refine (unhide HR1).mono ?_
    rintro e w1 ⟨v, t, rfl, hd, ho, hb⟩
    have HD := hide hd
    have HO := hide ho
    have HB := hide hb
    have HSe := hide (served_any w1)
    clear hd ho hb HR1
    go_wp2_with fail
    refine (unhide HSe).mono ?_
    rintro e w2 ⟨rfl, hb2⟩
    have HO := hide ((unhide HO).keep hb2)
    have HB2 := hide (below_step (unhide HB) hb2)
    have HE1 := hide (ends_run a n c f (good_of (unhide HJ)) (k1 + 1) t _ (unhide HD) v w2 (unhide HO))
    clear hb2 HSe HB
    go_wp2_with fail
    refine (unhide HE1).mono ?_
    rintro e w3 ⟨rfl, he3, hb3⟩
    obtain ⟨G, hG⟩ : ∃ G, w2.heap.size = G := ⟨_, rfl⟩
    rw [hG] at he3 ⊢
    have HB3 := hide (below_step (unhide HB2) hb3)
    obtain ⟨E, hE⟩ : ∃ E : Nat → Nat, E = fun j => endN j (sim (qOf n f (k1 + 1)) t).ps := ⟨_, rfl⟩
    have HEb : Hid (∀ j, j < n → E j ≤ 61000000000) := fun j hj => by rw [hE]; exact ends_fit (good_of (unhide HJ)) (k1 + 1) (unhide HD) hj
    have HEa : Hid (∀ j, j < n → (f j).1.toNat < E j) := fun j hj => by rw [hE]; exact ends_come (q := qOf n f (k1 + 1)) (unhide HD) hj (by have := (good_of (unhide HJ)).size j hj; show 0 < (f j).2.1.toNat; omega)
    have HE : Hid (OwnI w3 G n (fun j => ((E j : Nat) : Int))) := by rw [hE]; exact he3
    have HG := hide (good_of (unhide HJ))
    clear hb3 he3 HE1 HB2 hG hE HO HD
    obtain ⟨ti, hti, hz0, hz1, hz2⟩ := info_parts Try.infoI
    have HI := hide hti
    have HZ := hide hz0
    clear hti hz0
    go_wp2_with fail
    go_loopw [8, 10, 11] (fun vs vt vi wr => ∃ i : Nat, vi = .int .i64 (i : Int) ∧ vs = .int .i64 (isum (fun k => (E k : Int) - (f k).1) i) ∧ i ≤ n ∧ OwnL wr w3.heap.size vt (tms (fun k => (f k).1) (fun k => (E k : Int)) i) ∧ Below w3.heap.size w3 wr) (fun _ _ vi _ => n - (intOf vi).toNat)
    case atStart => exact ⟨0, rfl, rfl, Nat.zero_le _, OwnL.start _ _, Below.refl _ _⟩
    case round =>
      obtain ⟨i, rfl, rfl, hi, hL, hb⟩ := hrel
      by_cases hlt : i < n
      · obtain ⟨bl, ol, rfl, hbll, hcl⟩ := ((unhide HA).below (below_step (unhide HB3) hb)).2.2 (by omega)
        have ⟨l0, _, _⟩ := hcl i hlt
        have g0 := ((unhide HE).keep hb).cell hlt
        have hat := (unhide HG).at0 i hlt
        have heb := unhide HEb i hlt
        have hbd := isum_bd (f := fun k => (E k : Int) - (f k).1) (B := 61000000000) i (fun j hj => by have := unhide HEb j (by omega); have := (unhide HG).at0 j (by omega); exact ⟨by omega, by omega⟩)
        have FIN : Hid (isum (fun k => (E k : Int) - (f k).1) (i + 1) = isum (fun k => (E k : Int) - (f k).1) i + ((E i : Int) - (f i).1)) := rfl
        have FT := hide (tms_succ (fun k => (f k).1) (fun k => (E k : Int)) i)
        have HLen := hide (tms_length (fun k => (f k).1) (fun k => (E k : Int)) i)
        obtain ⟨N, hN⟩ : ∃ N, isum (fun k => (E k : Int) - (f k).1) i = N := ⟨_, rfl⟩
        obtain ⟨p, hp⟩ : ∃ p, (f i).1 = p := ⟨_, rfl⟩
        obtain ⟨q, hq⟩ : ∃ q : Int, (E i : Int) = q := ⟨_, rfl⟩
        rw [hN] at FIN hbd ⊢
        rw [hp] at FIN l0 hat
        rw [hq] at FIN g0
        have FT' : Hid (tms (fun k => (f k).1) (fun k => (E k : Int)) (i + 1) = tms (fun k => (f k).1) (fun k => (E k : Int)) i ++ [p, q]) := by show _ = _; rw [unhide FT, ← hp, ← hq]
        have w1 : IntKind.i64.wrap (q - p) = q - p := by rw [IntKind.wrap_i64]; omega
        have w2 : IntKind.i64.wrap (N + (q - p)) = N + (q - p) := by rw [IntKind.wrap_i64]; omega
        have e1 : (i : Int) < (n : Int) := by omega
        have HL := hide hL
        have HBw := hide hb
        have hltH := hide hlt
        clear hcl hL hb hN hp hq hat heb hbd FT
        go_wp2_with fail
        go_quiet (fail)
        go_wp2_with fail
        go_region_law ((refine step_append_lies _ rfl (.tmp 67) (.tmp 77) 29 rfl w3.heap.size 3 ti (.int .i64 0) 1 8 Try.underlying29 (unhide HI) (unhide HZ) hz1 hz2 rfl (by decide) u10 (tms (fun k => (f k).1) (fun k => (E k : Int)) i).length ((tms (fun k => (f k).1) (fun k => (E k : Int)) i).map (Value.int .i64 ·)) (by simp [Act.eval]) ((unhide HL).keep (by first | exact below_step (below_drewN _ _) (alloc_below _ _) | exact below_step (below_step (below_drewN _ _) (drew_below _)) (alloc_below _ _))) ⟨wr.heap.size, 0, none⟩ 2 2 [.int .i64 p, .int .i64 q] (by simp [Act.eval]) rfl (news_two _ _ _ _) (by intro u hu; simp at hu; rcases hu with rfl | rfl <;> rfl) (by decide) (by rw [unhide HLen]; unfold maxLen; omega) (by rw [unhide HLen]; omega) (Nat.le_trans (unhide HBw).size (by first | exact (below_step (below_drewN _ _) (alloc_below _ _)).size | exact (below_step (below_step (below_drewN _ _) (drew_below _)) (alloc_below _ _)).size)) _ rfl ?_; intro g2 cap2 w4 own4 grow4 hat4 hlt4))
        all_goals
          have FL : Hid (OwnL w4 w3.heap.size (.slice (some ⟨g2, 0, none⟩) ((tms (fun k => (f k).1) (fun k => (E k : Int)) i).length + 2) cap2) (tms (fun k => (f k).1) (fun k => (E k : Int)) (i + 1))) := by
            show OwnL _ _ _ _
            rw [unhide FT']
            unfold OwnL
            rw [List.map_append, List.length_append]
            exact own4
          have FB : Hid (Below w3.heap.size w3 w4) := by
            refine Below.grown (below_step (unhide HBw) ?_) grow4 ?_ (unhide HL).row
            · first | exact below_step (below_drewN _ _) (alloc_below _ _) | exact below_step (below_step (below_drewN _ _) (drew_below _)) (alloc_below _ _)
            · exact Nat.le_trans (unhide HBw).size (by first | exact (below_step (below_drewN _ _) (alloc_below _ _)).size | exact (below_step (below_step (below_drewN _ _) (drew_below _)) (alloc_below _ _)).size)
          clear own4 grow4 hat4
          go_wp2
          exact ⟨⟨i + 1, by go_num, by rw [unhide FIN], unhide hltH, unhide FL, unhide FB⟩, by have := unhide hltH; simp [intOf]; omega⟩
      · obtain rfl : i = n := by omega
        have e1 : ¬ (i : Int) < (i : Int) := by omega
        obtain ⟨at', ct, rfl, hT0⟩ := hL.irow
        rw [tms_length] at hT0 ⊢
        have HT0 := hide hT0
        have HBw := hide hb
        have hTc := hT0.1
        have hTc2 := hT0.2.1
        obtain ⟨T, hTd⟩ : ∃ T : Nat → Int, T = fun j => (tms (fun k => (f k).1) (fun k => (E k : Int)) i)[j]! := ⟨_, rfl⟩
        have HTn : Hid (∀ k, 0 ≤ T k) := fun k => by rw [hTd]; exact tms_nonneg (fun j hj => ⟨((unhide HG).at0 j hj).1, by omega⟩) k
        have HTr : Hid (IRow wr at' (i * 2) ct T) := by rw [hTd]; exact hT0
        have HTb : Hid (∀ k, k < i * 2 → T k ≤ 61000000000) := fun k hk => by
          rw [hTd]
          have hj : k / 2 < i := by omega
          have hg := tms_get (fun k => (f k).1) (fun k => (E k : Int)) hj
          have h1 := (unhide HG).at0 (k / 2) hj
          have h2 := unhide HEb (k / 2) hj
          show (tms (fun k => (f k).1) (fun k => (E k : Int)) i)[k]! ≤ _
          rcases Nat.mod_two_eq_zero_or_one k with e | e
          · rw [show k = k / 2 * 2 by omega, hg.1]; omega
          · rw [show k = k / 2 * 2 + 1 by omega, hg.2]; omega
        have HLit : Hid (isum (fun j => isum (fun k => if (f k).1 ≤ T j ∧ T j < (E k : Int) then stepv T (i * 2) j else 0) i) (i * 2) = isum (fun k => (E k : Int) - (f k).1) i) :=
          little (A := fun k => (f k).1) (E := fun k => (E k : Int)) (unhide HTn) fun k hk => by
            have hg := tms_get (fun k => (f k).1) (fun k => (E k : Int)) hk
            have h1 := unhide HEa k hk
            have h2 := (unhide HG).at0 k hk
            rw [hTd]
            exact ⟨by show (f k).1 ≤ (E k : Int); omega, ⟨k * 2, by omega, hg.1⟩, ⟨k * 2 + 1, by omega, hg.2⟩⟩
        obtain ⟨ST, hST⟩ : ∃ s, isum (fun k => (E k : Int) - (f k).1) i = s := ⟨_, rfl⟩
        rw [hST] at HLit ⊢
        clear hTd hT0 HT0 hb hL hST
        obtain ⟨wq, hwq⟩ : ∃ W, W = wr := ⟨_, rfl⟩
        rw [← hwq] at HBw HTr ⊢
        clear hwq

        go_wp2_with fail
        go_loopw [9, 12] (fun va vj wr => ∃ j q : Nat, vj = .int .i64 (j : Int) ∧ va = .int .i64 (isum (fun j => isum (fun k => if (f k).1 ≤ T j ∧ T j < (E k : Int) then stepv T (i * 2) j else 0) i) j) ∧ j ≤ i * 2 ∧ wr = wq.drewN q) (fun _ vj _ => i * 2 - (intOf vj).toNat)
        case atStart => exact ⟨0, 0, rfl, rfl, Nat.zero_le _, rfl⟩
        case round =>
          obtain ⟨j, q, rfl, rfl, hj, hwr⟩ := hrel
          have HW := hide hwr
          have bw : Below wq.heap.size wq wr := by rw [hwr]; exact below_drewN _ _
          have bd := isum_bd (f := fun j => isum (fun k => if (f k).1 ≤ T j ∧ T j < (E k : Int) then stepv T (i * 2) j else 0) i) (B := 1525000000000) j (fun l hl => by
            have h1 := isum_bd (f := fun k => if (f k).1 ≤ T l ∧ T l < (E k : Int) then stepv T (i * 2) l else 0) (B := 61000000000) i (fun k hk => by
              have := stepv_bd (unhide HTn) (unhide HTb) (i := l) (by omega)
              split <;> omega)
            exact ⟨by omega, by omega⟩)
          have FIN : Hid (isum (fun j => isum (fun k => if (f k).1 ≤ T j ∧ T j < (E k : Int) then stepv T (i * 2) j else 0) i) (j + 1) = isum (fun j => isum (fun k => if (f k).1 ≤ T j ∧ T j < (E k : Int) then stepv T (i * 2) j else 0) i) j + isum (fun k => if (f k).1 ≤ T j ∧ T j < (E k : Int) then stepv T (i * 2) j else 0) i) := rfl
          by_cases hlt : j < i * 2
          · obtain ⟨A0, hA0⟩ : ∃ A0, isum (fun j => isum (fun k => if (f k).1 ≤ T j ∧ T j < (E k : Int) then stepv T (i * 2) j else 0) i) j = A0 := ⟨_, rfl⟩
            rw [hA0] at FIN bd ⊢
            have hA1 : -76250000000000 ≤ A0 ∧ A0 ≤ 76250000000000 := by omega
            have e1 : (j : Int) < ((i * 2 : Nat) : Int) := by omega
            have e1' : (j : Int) < (i : Int) * 2 := by omega
            have hltH := hide hlt
            have HA1 := hide hA1
            have HBW := hide (below_step (unhide HBw) bw)
            have HTW := hide ((unhide HTr).below bw)
            obtain ⟨y, hy⟩ : ∃ y, T j = y := ⟨_, rfl⟩
            have HY := hide hy
            clear bd hA0 hA1 hwr bw hy
            obtain ⟨wp, hwp⟩ : ∃ W, W = wr := ⟨_, rfl⟩
            rw [← hwp] at HBW HTW HW ⊢
            clear hwp
            go_wp2_with fail
            go_loopw [13, 14, 15] (fun vn vf vk wr => ∃ kk q2 : Nat, vk = .int .i64 (kk : Int) ∧ vn = .int .i64 (nxf T j kk) ∧ vf = .bool (fsf T j kk) ∧ kk ≤ i * 2 ∧ wr = wp.drewN q2) (fun _ _ vk _ => i * 2 - (intOf vk).toNat)
            case atStart => exact ⟨0, 0, rfl, rfl, rfl, Nat.zero_le _, rfl⟩
            case round =>
              obtain ⟨kk, q2, rfl, rfl, rfl, hkk, hwr⟩ := hrel
              have HW2 := hide hwr
              have bw : Below wp.heap.size wp wr := by rw [hwr]; exact below_drewN _ _
              have hNb := nxf_bd (unhide HTn) (unhide HTb) j hkk
              obtain ⟨N, hN⟩ : ∃ N, nxf T j kk = N := ⟨_, rfl⟩
              rw [hN] at hNb ⊢
              have HNN := hide hN
              clear hN
              by_cases hklt : kk < i * 2
              · obtain ⟨bt, ot, rfl, hbt, hct⟩ := ((unhide HTW).below bw).2.2 (by omega)
                have t1 := hct kk hklt
                have t2 := hct j (unhide hltH)
                obtain ⟨x, hx⟩ : ∃ x, T kk = x := ⟨_, rfl⟩
                have HX := hide hx
                rw [hx] at t1
                rw [unhide HY] at t2
                have e2 : (kk : Int) < ((i * 2 : Nat) : Int) := by omega
                have e2' : (kk : Int) < (i : Int) * 2 := by omega
                have hkltH := hide hklt
                have hjH := hide hj
                clear hct hx bw hwr hklt hlt hj hkk hNb
                by_cases c1 : y < x
                · have d1 : decide (y < x) = true := decide_eq_true c1
                  by_cases c2 : N < 0
                  · have d2 : decide (N < 0) = true := decide_eq_true c2
                    have HNX : Hid (nxf T j (kk + 1) = x) := by show (if T j < T kk ∧ (nxf T j kk < 0 ∨ T kk < nxf T j kk) then T kk else nxf T j kk) = x; rw [unhide HX, unhide HY, unhide HNN, if_pos ⟨c1, Or.inl c2⟩]
                    cases hb : fsf T j kk with
                    | false =>
                      have HFS : Hid (fsf T j (kk + 1) = false) := by show (fsf T j kk && _) = false; rw [hb]; rfl
                      clear hb
                      go_wp2_with fail
                      go_quiet (fail)
                      obtain ⟨nq1, rfl⟩ : ∃ k, k = nq := ⟨_, rfl⟩
                      go_wp2_with fail
                      go_wp2_with fail
                      go_quiet (fail)
                      go_wp2
                      exact ⟨⟨kk + 1, q2 + nq1 + nq, by go_num, by rw [unhide HNX], by rw [show fsf T j (kk + 1) = false from unhide HFS], unhide hkltH, by rw [unhide HW2]; simp [Nat.add_assoc]⟩, by have := unhide hkltH; simp [intOf]; omega⟩
                    | true =>
                      by_cases hjk : (j : Int) ≤ (kk : Int)
                      · have HFS : Hid (fsf T j (kk + 1) = true) := by show (fsf T j kk && decide (j ≤ kk ∨ T kk ≠ T j)) = true; rw [hb, decide_eq_true (Or.inl (by omega))]; rfl
                        have f1 : decide ((j : Int) ≤ (kk : Int)) = true := decide_eq_true hjk
                        have f2 : decide (j ≤ kk) = true := decide_eq_true (by omega)
                        clear hb
                        go_wp2_with fail
                        go_quiet (fail)
                        obtain ⟨nq1, rfl⟩ : ∃ k, k = nq := ⟨_, rfl⟩
                        go_wp2_with fail
                        go_wp2_with fail
                        go_quiet (fail)
                        go_wp2
                        exact ⟨⟨kk + 1, q2 + nq1 + nq, by go_num, by rw [unhide HNX], by rw [show fsf T j (kk + 1) = true from unhide HFS], unhide hkltH, by rw [unhide HW2]; simp [Nat.add_assoc]⟩, by have := unhide hkltH; simp [intOf]; omega⟩
                      · have f1 : decide ((j : Int) ≤ (kk : Int)) = false := decide_eq_false hjk
                        have f2 : decide (j ≤ kk) = false := decide_eq_false (by omega)
                        by_cases hxy : x = y
                        · exact absurd hxy (by omega)
                        · have HFS : Hid (fsf T j (kk + 1) = true) := by show (fsf T j kk && decide (j ≤ kk ∨ T kk ≠ T j)) = true; rw [hb, decide_eq_true (Or.inr (by rw [unhide HX, unhide HY]; exact hxy))]; rfl
                          have f3 : (x != y) = true := by rw [bne_iff_ne]; exact hxy
                          clear hb
                          go_wp2_with fail
                          go_quiet (fail)
                          obtain ⟨nq1, rfl⟩ : ∃ k, k = nq := ⟨_, rfl⟩
                          go_wp2_with fail
                          go_wp2_with fail
                          go_quiet (fail)
                          go_wp2
                          exact ⟨⟨kk + 1, q2 + nq1 + nq, by go_num, by rw [unhide HNX], by rw [show fsf T j (kk + 1) = true from unhide HFS], unhide hkltH, by rw [unhide HW2]; simp [Nat.add_assoc]⟩, by have := unhide hkltH; simp [intOf]; omega⟩
                  · have d2 : decide (N < 0) = false := decide_eq_false c2
                    by_cases c3 : x < N
                    · have d3 : decide (x < N) = true := decide_eq_true c3
                      have HNX : Hid (nxf T j (kk + 1) = x) := by show (if T j < T kk ∧ (nxf T j kk < 0 ∨ T kk < nxf T j kk) then T kk else nxf T j kk) = x; rw [unhide HX, unhide HY, unhide HNN, if_pos ⟨c1, Or.inr c3⟩]
                      cases hb : fsf T j kk with
                      | false =>
                        have HFS : Hid (fsf T j (kk + 1) = false) := by show (fsf T j kk && _) = false; rw [hb]; rfl
                        clear hb
                        go_wp2_with fail
                        go_quiet (fail)
                        obtain ⟨nq1, rfl⟩ : ∃ k, k = nq := ⟨_, rfl⟩
                        go_wp2_with fail
                        go_wp2_with fail
                        go_quiet (fail)
                        go_wp2
                        exact ⟨⟨kk + 1, q2 + nq1 + nq, by go_num, by rw [unhide HNX], by rw [show fsf T j (kk + 1) = false from unhide HFS], unhide hkltH, by rw [unhide HW2]; simp [Nat.add_assoc]⟩, by have := unhide hkltH; simp [intOf]; omega⟩
                      | true =>
                        by_cases hjk : (j : Int) ≤ (kk : Int)
                        · have HFS : Hid (fsf T j (kk + 1) = true) := by show (fsf T j kk && decide (j ≤ kk ∨ T kk ≠ T j)) = true; rw [hb, decide_eq_true (Or.inl (by omega))]; rfl
                          have f1 : decide ((j : Int) ≤ (kk : Int)) = true := decide_eq_true hjk
                          have f2 : decide (j ≤ kk) = true := decide_eq_true (by omega)
                          clear hb
                          go_wp2_with fail
                          go_quiet (fail)
                          obtain ⟨nq1, rfl⟩ : ∃ k, k = nq := ⟨_, rfl⟩
                          go_wp2_with fail
                          go_wp2_with fail
                          go_quiet (fail)
                          go_wp2
                          exact ⟨⟨kk + 1, q2 + nq1 + nq, by go_num, by rw [unhide HNX], by rw [show fsf T j (kk + 1) = true from unhide HFS], unhide hkltH, by rw [unhide HW2]; simp [Nat.add_assoc]⟩, by have := unhide hkltH; simp [intOf]; omega⟩
                        · have f1 : decide ((j : Int) ≤ (kk : Int)) = false := decide_eq_false hjk
                          have f2 : decide (j ≤ kk) = false := decide_eq_false (by omega)
                          by_cases hxy : x = y
                          · exact absurd hxy (by omega)
                          · have HFS : Hid (fsf T j (kk + 1) = true) := by show (fsf T j kk && decide (j ≤ kk ∨ T kk ≠ T j)) = true; rw [hb, decide_eq_true (Or.inr (by rw [unhide HX, unhide HY]; exact hxy))]; rfl
                            have f3 : (x != y) = true := by rw [bne_iff_ne]; exact hxy
                            clear hb
                            go_wp2_with fail
                            go_quiet (fail)
                            obtain ⟨nq1, rfl⟩ : ∃ k, k = nq := ⟨_, rfl⟩
                            go_wp2_with fail
                            go_wp2_with fail
                            go_quiet (fail)
                            go_wp2
                            exact ⟨⟨kk + 1, q2 + nq1 + nq, by go_num, by rw [unhide HNX], by rw [show fsf T j (kk + 1) = true from unhide HFS], unhide hkltH, by rw [unhide HW2]; simp [Nat.add_assoc]⟩, by have := unhide hkltH; simp [intOf]; omega⟩
                    · have d3 : decide (x < N) = false := decide_eq_false c3
                      have HNX : Hid (nxf T j (kk + 1) = N) := by show (if T j < T kk ∧ (nxf T j kk < 0 ∨ T kk < nxf T j kk) then T kk else nxf T j kk) = N; rw [unhide HX, unhide HY, unhide HNN, if_neg (fun h => h.2.elim c2 c3)]
                      cases hb : fsf T j kk with
                      | false =>
                        have HFS : Hid (fsf T j (kk + 1) = false) := by show (fsf T j kk && _) = false; rw [hb]; rfl
                        clear hb
                        go_wp2_with fail
                        go_quiet (fail)
                        obtain ⟨nq1, rfl⟩ : ∃ k, k = nq := ⟨_, rfl⟩
                        go_wp2_with fail
                        go_wp2_with fail
                        go_quiet (fail)
                        go_wp2
                        exact ⟨⟨kk + 1, q2 + nq1 + nq, by go_num, by rw [unhide HNX], by rw [show fsf T j (kk + 1) = false from unhide HFS], unhide hkltH, by rw [unhide HW2]; simp [Nat.add_assoc]⟩, by have := unhide hkltH; simp [intOf]; omega⟩
                      | true =>
                        by_cases hjk : (j : Int) ≤ (kk : Int)
                        · have HFS : Hid (fsf T j (kk + 1) = true) := by show (fsf T j kk && decide (j ≤ kk ∨ T kk ≠ T j)) = true; rw [hb, decide_eq_true (Or.inl (by omega))]; rfl
                          have f1 : decide ((j : Int) ≤ (kk : Int)) = true := decide_eq_true hjk
                          have f2 : decide (j ≤ kk) = true := decide_eq_true (by omega)
                          clear hb
                          go_wp2_with fail
                          go_quiet (fail)
                          obtain ⟨nq1, rfl⟩ : ∃ k, k = nq := ⟨_, rfl⟩
                          go_wp2_with fail
                          go_wp2_with fail
                          go_quiet (fail)
                          go_wp2
                          exact ⟨⟨kk + 1, q2 + nq1 + nq, by go_num, by rw [unhide HNX], by rw [show fsf T j (kk + 1) = true from unhide HFS], unhide hkltH, by rw [unhide HW2]; simp [Nat.add_assoc]⟩, by have := unhide hkltH; simp [intOf]; omega⟩
                        · have f1 : decide ((j : Int) ≤ (kk : Int)) = false := decide_eq_false hjk
                          have f2 : decide (j ≤ kk) = false := decide_eq_false (by omega)
                          by_cases hxy : x = y
                          · exact absurd hxy (by omega)
                          · have HFS : Hid (fsf T j (kk + 1) = true) := by show (fsf T j kk && decide (j ≤ kk ∨ T kk ≠ T j)) = true; rw [hb, decide_eq_true (Or.inr (by rw [unhide HX, unhide HY]; exact hxy))]; rfl
                            have f3 : (x != y) = true := by rw [bne_iff_ne]; exact hxy
                            clear hb
                            go_wp2_with fail
                            go_quiet (fail)
                            obtain ⟨nq1, rfl⟩ : ∃ k, k = nq := ⟨_, rfl⟩
                            go_wp2_with fail
                            go_wp2_with fail
                            go_quiet (fail)
                            go_wp2
                            exact ⟨⟨kk + 1, q2 + nq1 + nq, by go_num, by rw [unhide HNX], by rw [show fsf T j (kk + 1) = true from unhide HFS], unhide hkltH, by rw [unhide HW2]; simp [Nat.add_assoc]⟩, by have := unhide hkltH; simp [intOf]; omega⟩
                · have d1 : decide (y < x) = false := decide_eq_false c1
                  have HNX : Hid (nxf T j (kk + 1) = N) := by show (if T j < T kk ∧ (nxf T j kk < 0 ∨ T kk < nxf T j kk) then T kk else nxf T j kk) = N; rw [unhide HX, unhide HY, unhide HNN, if_neg (fun h => c1 h.1)]
                  cases hb : fsf T j kk with
                  | false =>
                    have HFS : Hid (fsf T j (kk + 1) = false) := by show (fsf T j kk && _) = false; rw [hb]; rfl
                    clear hb
                    go_wp2_with fail
                    go_quiet (fail)
                    obtain ⟨nq1, rfl⟩ : ∃ k, k = nq := ⟨_, rfl⟩
                    go_wp2_with fail
                    go_wp2_with fail
                    go_quiet (fail)
                    go_wp2
                    exact ⟨⟨kk + 1, q2 + nq1 + nq, by go_num, by rw [unhide HNX], by rw [show fsf T j (kk + 1) = false from unhide HFS], unhide hkltH, by rw [unhide HW2]; simp [Nat.add_assoc]⟩, by have := unhide hkltH; simp [intOf]; omega⟩
                  | true =>
                    by_cases hjk : (j : Int) ≤ (kk : Int)
                    · have HFS : Hid (fsf T j (kk + 1) = true) := by show (fsf T j kk && decide (j ≤ kk ∨ T kk ≠ T j)) = true; rw [hb, decide_eq_true (Or.inl (by omega))]; rfl
                      have f1 : decide ((j : Int) ≤ (kk : Int)) = true := decide_eq_true hjk
                      have f2 : decide (j ≤ kk) = true := decide_eq_true (by omega)
                      clear hb
                      go_wp2_with fail
                      go_quiet (fail)
                      obtain ⟨nq1, rfl⟩ : ∃ k, k = nq := ⟨_, rfl⟩
                      go_wp2_with fail
                      go_wp2_with fail
                      go_quiet (fail)
                      go_wp2
                      exact ⟨⟨kk + 1, q2 + nq1 + nq, by go_num, by rw [unhide HNX], by rw [show fsf T j (kk + 1) = true from unhide HFS], unhide hkltH, by rw [unhide HW2]; simp [Nat.add_assoc]⟩, by have := unhide hkltH; simp [intOf]; omega⟩
                    · have f1 : decide ((j : Int) ≤ (kk : Int)) = false := decide_eq_false hjk
                      have f2 : decide (j ≤ kk) = false := decide_eq_false (by omega)
                      by_cases hxy : x = y
                      · have HFS : Hid (fsf T j (kk + 1) = false) := by show (fsf T j kk && decide (j ≤ kk ∨ T kk ≠ T j)) = false; rw [hb, decide_eq_false (fun c => c.elim (fun h => hjk (by omega)) (fun h => h (by rw [unhide HX, unhide HY]; exact hxy)))]; rfl
                        have f3 : (x != y) = false := by rw [hxy]; simp
                        clear hb
                        go_wp2_with fail
                        go_quiet (fail)
                        obtain ⟨nq1, rfl⟩ : ∃ k, k = nq := ⟨_, rfl⟩
                        go_wp2_with fail
                        go_wp2_with fail
                        go_quiet (fail)
                        go_wp2
                        exact ⟨⟨kk + 1, q2 + nq1 + nq, by go_num, by rw [unhide HNX], by rw [show fsf T j (kk + 1) = false from unhide HFS], unhide hkltH, by rw [unhide HW2]; simp [Nat.add_assoc]⟩, by have := unhide hkltH; simp [intOf]; omega⟩
                      · have HFS : Hid (fsf T j (kk + 1) = true) := by show (fsf T j kk && decide (j ≤ kk ∨ T kk ≠ T j)) = true; rw [hb, decide_eq_true (Or.inr (by rw [unhide HX, unhide HY]; exact hxy))]; rfl
                        have f3 : (x != y) = true := by rw [bne_iff_ne]; exact hxy
                        clear hb
                        go_wp2_with fail
                        go_quiet (fail)
                        obtain ⟨nq1, rfl⟩ : ∃ k, k = nq := ⟨_, rfl⟩
                        go_wp2_with fail
                        go_wp2_with fail
                        go_quiet (fail)
                        go_wp2
                        exact ⟨⟨kk + 1, q2 + nq1 + nq, by go_num, by rw [unhide HNX], by rw [show fsf T j (kk + 1) = true from unhide HFS], unhide hkltH, by rw [unhide HW2]; simp [Nat.add_assoc]⟩, by have := unhide hkltH; simp [intOf]; omega⟩
              · obtain rfl : kk = i * 2 := by omega
                have e2 : ¬ ((i * 2 : Nat) : Int) < ((i * 2 : Nat) : Int) := by omega
                have e2' : ¬ (i : Int) * 2 < (i : Int) * 2 := by omega
                have hN0 := unhide HNN
                have HZ0 : Hid (¬ (0 ≤ N ∧ fsf T j (i * 2) = true) → isum (fun k => if (f k).1 ≤ T j ∧ T j < (E k : Int) then stepv T (i * 2) j else 0) i = 0) := fun h => isum_zero fun k _ => by
                  have hz : stepv T (i * 2) j = 0 := by unfold stepv; rw [hN0, if_neg h]
                  rw [hz]; split <;> rfl
                have HS0 : Hid (0 ≤ N ∧ fsf T j (i * 2) = true → stepv T (i * 2) j = N - y) := fun h => by unfold stepv; rw [hN0, if_pos h, unhide HY]
                have HWQ : Hid (wr = wq.drewN (q + q2)) := by show wr = _; rw [unhide HW2, unhide HW, World.drewN_drewN]
                have hNbH := hide hNb
                have HTZ := hide ((unhide HTW).below bw)
                have HBZ := hide (below_step (unhide HBW) bw)
                clear hN0 hwr bw hNb hkk hklt hj hlt
                by_cases c1 : N < 0
                · have d1 : decide (N < 0) = true := decide_eq_true c1
                  have HZ := hide (unhide HZ0 (fun h => by omega))
                  clear HZ0 HS0
                  go_wp2
                  exact ⟨⟨j + 1, q + q2, by go_num, by rw [unhide FIN, unhide HZ, Int.add_zero], unhide hltH, unhide HWQ⟩, by have := unhide hltH; simp [intOf]; omega⟩
                · have d1 : decide (N < 0) = false := decide_eq_false c1
                  cases hb : fsf T j (i * 2) with
                  | false =>
                    have HZ := hide (unhide HZ0 (fun h => by rw [hb] at h; exact absurd h.2 (by decide)))
                    clear HZ0 HS0 hb
                    go_wp2
                    exact ⟨⟨j + 1, q + q2, by go_num, by rw [unhide FIN, unhide HZ, Int.add_zero], unhide hltH, unhide HWQ⟩, by have := unhide hltH; simp [intOf]; omega⟩
                  | true =>
                    have HS := hide (unhide HS0 ⟨by omega, hb⟩)
                    clear HZ0 HS0 hb
                    rw [unhide HS] at FIN
                    obtain ⟨wz, hwz⟩ : ∃ W, W = wr := ⟨_, rfl⟩
                    rw [← hwz] at HWQ HTZ HBZ ⊢
                    clear hwz
                    go_wp2_with fail
                    go_loopw [9, 16] (fun va vk wr => ∃ kk q3 : Nat, vk = .int .i64 (kk : Int) ∧ va = .int .i64 (A0 + isum (fun k => if (f k).1 ≤ T j ∧ T j < (E k : Int) then N - y else 0) kk) ∧ kk ≤ i ∧ wr = wz.drewN q3) (fun _ vk _ => i - (intOf vk).toNat)
                    case atStart => exact ⟨0, 0, rfl, by show _ = Value.int .i64 (A0 + 0); rw [Int.add_zero], Nat.zero_le _, rfl⟩
                    case round =>
                      obtain ⟨kk, q3, rfl, rfl, hkk, hwr⟩ := hrel
                      have HW3 := hide hwr
                      have bw : Below wz.heap.size wz wr := by rw [hwr]; exact below_drewN _ _
                      by_cases hklt : kk < i
                      · obtain ⟨bt, ot, rfl, hbt, hct⟩ := ((unhide HTZ).below bw).2.2 (by have := unhide hltH; omega)
                        have t2 := hct j (unhide hltH)
                        rw [unhide HY] at t2
                        obtain ⟨bl, ol, rfl, hbll, hcl⟩ := ((unhide HA).below (below_step (unhide HB3) (below_step (unhide HBZ) bw))).2.2 (by omega)
                        have ⟨l0, _, _⟩ := hcl kk hklt
                        have g0 := ((unhide HE).keep (below_step (unhide HBZ) bw)).cell hklt
                        have hyb : 0 ≤ y ∧ y ≤ 61000000000 := by rw [← unhide HY]; exact ⟨unhide HTn j, unhide HTb j (unhide hltH)⟩
                        have hNb := unhide hNbH
                        have bd := isum_bd (f := fun k => if (f k).1 ≤ T j ∧ T j < (E k : Int) then N - y else 0) (B := 61000000000) kk (fun k _ => by split <;> omega)
                        obtain ⟨S, hS⟩ : ∃ S, isum (fun k => if (f k).1 ≤ T j ∧ T j < (E k : Int) then N - y else 0) kk = S := ⟨_, rfl⟩
                        rw [hS] at bd ⊢
                        obtain ⟨p, hp⟩ : ∃ p, (f kk).1 = p := ⟨_, rfl⟩
                        obtain ⟨qv, hqv⟩ : ∃ p : Int, (E kk : Int) = p := ⟨_, rfl⟩
                        have FIN3 : Hid (isum (fun k => if (f k).1 ≤ T j ∧ T j < (E k : Int) then N - y else 0) (kk + 1) = S + (if p ≤ y ∧ y < qv then N - y else 0)) := by
                          show isum (fun k => if (f k).1 ≤ T j ∧ T j < (E k : Int) then N - y else 0) kk + (if (f kk).1 ≤ T j ∧ T j < (E kk : Int) then N - y else 0) = _
                          rw [hS, hp, hqv, unhide HY]
                        rw [hp] at l0
                        rw [hqv] at g0
                        have hA1 := unhide HA1
                        obtain ⟨M, hM⟩ : ∃ M, A0 + S = M := ⟨_, rfl⟩
                        rw [hM]
                        have w1 : IntKind.i64.wrap (N - y) = N - y := by rw [IntKind.wrap_i64]; omega
                        have w2 : IntKind.i64.wrap (M + (N - y)) = M + (N - y) := by rw [IntKind.wrap_i64]; omega
                        have e3 : (kk : Int) < (i : Int) := by omega
                        have HM := hide hM
                        have hkltH := hide hklt
                        clear hct hcl hS hp hqv hA1 hM bd hyb hNb bw hwr hklt hkk
                        by_cases c2 : p ≤ y
                        · have f1 : decide (p ≤ y) = true := decide_eq_true c2
                          by_cases c3 : y < qv
                          · have f2 : decide (y < qv) = true := decide_eq_true c3
                            rw [if_pos ⟨c2, c3⟩] at FIN3
                            go_wp2_with fail
                            go_quiet (fail)
                            go_wp2
                            exact ⟨⟨kk + 1, q3 + nq, by go_num, by rw [unhide FIN3, ← unhide HM]; congr 1; omega, unhide hkltH, by rw [unhide HW3]; simp⟩, by have := unhide hkltH; simp [intOf]; omega⟩
                          · have f2 : decide (y < qv) = false := decide_eq_false c3
                            rw [if_neg (fun h => c3 h.2)] at FIN3
                            go_wp2_with fail
                            go_quiet (fail)
                            go_wp2
                            exact ⟨⟨kk + 1, q3 + nq, by go_num, by rw [unhide FIN3, ← unhide HM]; congr 1; omega, unhide hkltH, by rw [unhide HW3]; simp⟩, by have := unhide hkltH; simp [intOf]; omega⟩
                        · have f1 : decide (p ≤ y) = false := decide_eq_false c2
                          rw [if_neg (fun h => c2 h.1)] at FIN3
                          go_wp2_with fail
                          go_quiet (fail)
                          go_wp2
                          exact ⟨⟨kk + 1, q3 + nq, by go_num, by rw [unhide FIN3, ← unhide HM]; congr 1; omega, unhide hkltH, by rw [unhide HW3]; simp⟩, by have := unhide hkltH; simp [intOf]; omega⟩
                      · obtain rfl : kk = i := by omega
                        have e3 : ¬ (kk : Int) < (kk : Int) := by omega
                        have HWF : Hid (wr = wq.drewN (q + q2 + q3)) := by show wr = _; rw [hwr, unhide HWQ, World.drewN_drewN]
                        clear hwr bw hkk
                        go_wp2
                        exact ⟨⟨j + 1, q + q2 + q3, by go_num, by rw [unhide FIN], unhide hltH, unhide HWF⟩, by have := unhide hltH; simp [intOf]; omega⟩
          · obtain rfl : j = i * 2 := by omega
            have e1 : ¬ ((i * 2 : Nat) : Int) < ((i * 2 : Nat) : Int) := by omega
            have e1' : ¬ (i : Int) * 2 < (i : Int) * 2 := by omega
            rw [unhide HLit]
            have FB : Hid (Below w.heap.size w wr) := below_step (unhide HB3) (below_step (unhide HBw) bw)
            clear hwr bw bd FIN
            go_wp2
            go_ret
            exact ⟨rfl, unhide FB⟩
  · have HR1 := hide (run_bad a n c f (1 + (k1 : Int)) w (unhide HA) hj)
    have HJ := hide hj
    clear hj
    go_wp2_with fail
    refine (unhide HR1).mono ?_
    rintro e w1 ⟨rfl, hb⟩
    have HB := hide hb
    have HSe := hide (served_any w1)
    clear hb HR1
    go_wp2_with fail
    refine (unhide HSe).mono ?_
    rintro e w2 ⟨rfl, hb2⟩
    have HB2 := hide (below_step (unhide HB) hb2)
    have HSe := hide (served_any w2)
    clear hb2 HB
    go_wp2_with fail
    refine (unhide HSe).mono ?_
    rintro e w3 ⟨rfl, hb3⟩
    have HB3 := hide (below_step (unhide HB2) hb3)
    clear hb3 HB2
    go_wp2
    go_ret
    exact ⟨rfl, unhide HB3⟩
end Go.Proofs.Ytfebbjbobogkcaa
