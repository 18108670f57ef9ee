/- Hu: levels, counts, the comparison. -/
import Derived.Test.YtepgdlgifempeaaDoorY2
import Derived.Test.YtepgdlgifempeaaDoorM32
namespace Go.Proofs.YtepgdlgifempeaaDoor
open Go.RowKit Go.Sort Stb Hux

def nbad (n : Nat) (x : Int) : Bool := decide (x < -1 ∨ (n : Int) ≤ x)
def ncode (n : Nat) (nx : Nat → Int) : Int := if (List.range n).any (fun i => nbad n (nx i)) then 2 else if (List.range n).any (fun i => decide (n < lv nx n i)) then 12 else 0
/-- A forest. -/
structure GoodN (n : Nat) (nx : Nat → Int) : Prop where
  rng : ∀ i, i < n → -1 ≤ nx i ∧ nx i < (n : Int)
  lev : ∀ i, i < n → lv nx n i ≤ n
theorem goodN_of {n : Nat} {nx : Nat → Int} (h : ncode n nx = 0) : GoodN n nx := by
  unfold ncode at h
  by_cases c : (List.range n).any (fun i => nbad n (nx i)) = true
  · rw [if_pos c] at h; exact absurd h (by decide)
  · rw [if_neg c] at h
    by_cases c2 : (List.range n).any (fun i => decide (n < lv nx n i)) = true
    · rw [if_pos c2] at h; exact absurd h (by decide)
    · refine ⟨fun i hi => ?_, fun i hi => ?_⟩
      · have h1 : ¬ nbad n (nx i) = true := fun h => c (List.any_eq_true.2 ⟨i, List.mem_range.2 hi, h⟩)
        unfold nbad at h1
        simp only [decide_eq_true_eq] at h1
        omega
      · have h1 : ¬ decide (n < lv nx n i) = true := fun h => c2 (List.any_eq_true.2 ⟨i, List.mem_range.2 hi, h⟩)
        simp only [decide_eq_true_eq] at h1
        omega
theorem ncode_two {n i : Nat} {nx : Nat → Int} (hi : i < n) (h : nx i < -1 ∨ (n : Int) ≤ nx i) : ncode n nx = 2 := by
  unfold ncode
  rw [if_pos (List.any_eq_true.2 ⟨i, List.mem_range.2 hi, decide_eq_true h⟩)]
theorem ncode_rng {n : Nat} {nx : Nat → Int} (h : ∀ i, i < n → -1 ≤ nx i ∧ nx i < (n : Int)) : ncode n nx = if (List.range n).any (fun i => decide (n < lv nx n i)) then 12 else 0 := by
  unfold ncode
  rw [if_neg]
  intro h'
  obtain ⟨i, h1, h2⟩ := List.any_eq_true.1 h'
  have := h i (List.mem_range.1 h1)
  unfold nbad at h2
  simp only [decide_eq_true_eq] at h2
  omega
theorem ncode_round {n i : Nat} {nx : Nat → Int} (h : ∀ i, i < n → -1 ≤ nx i ∧ nx i < (n : Int)) (hi : i < n) (hl : n < lv nx n i) : ncode n nx = 12 := by
  rw [ncode_rng h, if_pos (List.any_eq_true.2 ⟨i, List.mem_range.2 hi, decide_eq_true hl⟩)]
theorem ncode_zero {n : Nat} {nx : Nat → Int} (h : ∀ i, i < n → -1 ≤ nx i ∧ nx i < (n : Int)) (hl : ∀ i, i < n → lv nx n i ≤ n) : ncode n nx = 0 := by
  rw [ncode_rng h, if_neg]
  intro h'
  obtain ⟨i, h1, h2⟩ := List.any_eq_true.1 h'
  have := hl i (List.mem_range.1 h1)
  have h3 := of_decide_eq_true h2
  omega
/-- What levels leaves. -/
def LvPost (w : World) (n : Nat) (nx : Nat → Int) (e : Ending) (w' : World) : Prop :=
  Below w.heap.size w w' ∧ ((ncode n nx ≠ 0 ∧ e = .returned (.tuple #[.slice none 0 0, .iface 26 (.int .i64 (ncode n nx))])) ∨ (ncode n nx = 0 ∧ ∃ G, w.heap.size ≤ G ∧ e = .returned (.tuple #[.slice (some ⟨G, 0, none⟩) n n, .nilIface]) ∧ OwnI w' G n (fun i => (lv nx n i : Int))))
def cellN (w : World) (G i : Nat) : Nat := match w.cell? ⟨G, i, none⟩ with | some v => (intOf v).toNat | none => 0
theorem OwnI.cellN {w : World} {G n : Nat} {lf : Nat → Int} (h : OwnI w G n lf) {i : Nat} (hi : i < n) : cellN w G i = (lf i).toNat := by
  unfold Go.Proofs.YtepgdlgifempeaaDoor.cellN
  rw [h.cell hi]
  rfl

set_option maxHeartbeats 8000000 in
set_option maxRecDepth 100000 in
set_option linter.unusedSimpArgs false in
theorem levels_any (a : Option Addr) (n c : Nat) (nx : Nat → Int) (w : World) (ha : IRow w a n c nx) (hn : n ≤ 60) :
    Calls Tryd.prog 46 #[.slice a n c] w (LvPost w n nx) := by
  have HA := hide ha
  clear ha
  go_enter Tryd.func46, Tryd.ntmps46
  go_wp2_with fail
  go_loopw [11] (fun vi wr => ∃ k : Nat, vi = .int .i64 (k : Int) ∧ k ≤ n ∧ (∀ i, i < k → -1 ≤ nx i ∧ nx i < (n : Int)) ∧ wr = w) (fun vi _ => n - (intOf vi).toNat)
  case atStart => exact ⟨0, rfl, Nat.zero_le _, fun i hi => absurd hi (Nat.not_lt_zero _), rfl⟩
  case round =>
    obtain ⟨k, rfl, hk, hg, hwr⟩ := hrel
    have hwr := hwr.symm
    subst hwr
    by_cases hlt : k < n
    · obtain ⟨b, o, rfl, hbl, hc⟩ := (unhide HA).2.2 (by omega)
      have c0 := hc k hlt
      obtain ⟨x, hx⟩ : ∃ x, nx k = x := ⟨_, rfl⟩
      rw [hx] at c0
      have e1 : (0 : Int) ≤ (k : Int) := by omega
      have e2 : (k : Int) < (n : Int) := by omega
      have e3 : IntKind.i64.wrap ((k : Int) + 1) = (k : Int) + 1 := by rw [IntKind.wrap_i64]; omega
      by_cases g1 : x < -1
      · have HV : Hid (ncode n nx = 2) := ncode_two hlt (Or.inl (by omega))
        clear hc hg hx
        go_wp2
        go_ret2
        exact ⟨Below.refl _ _, Or.inl ⟨by rw [unhide HV]; decide, by rw [unhide HV]; rfl⟩⟩
      · by_cases g2 : (n : Int) ≤ x
        · have HV : Hid (ncode n nx = 2) := ncode_two hlt (Or.inr (by omega))
          clear hc hg hx
          go_wp2
          go_ret2
          exact ⟨Below.refl _ _, Or.inl ⟨by rw [unhide HV]; decide, by rw [unhide HV]; rfl⟩⟩
        · have HG : Hid (∀ i, i < k + 1 → -1 ≤ nx i ∧ nx i < (n : Int)) := fun i hi => by
            by_cases ci : i = k
            · rw [ci, hx]; omega
            · exact hg i (by omega)
          clear hc hg hx
          go_wp2
          exact ⟨⟨k + 1, by go_num, hlt, unhide HG, trivial⟩, by simp [intOf]; omega⟩
    · obtain rfl : k = n := by omega
      have e1 : ¬ (k : Int) < (k : Int) := by omega
      have HG := hide hg
      have mk := make_ints k (by omega) w
      have O0 := hide (make_own w k)
      have B0 := hide (alloc_below w (.cells (lrow (fun _ => 0) k).toArray 3))
      obtain ⟨W0, hW0⟩ : ∃ W, w.alloc (.cells (lrow (fun _ => 0) k).toArray 3) = W := ⟨_, rfl⟩
      rw [hW0] at mk O0 B0
      obtain ⟨G, hG⟩ : ∃ G, w.heap.size = G := ⟨_, rfl⟩
      rw [hG] at mk O0
      have HGe : Hid (w.heap.size ≤ G) := Nat.le_of_eq hG
      clear hW0 hG hg
      go_wp2_with fail
      (try simp only [Exit.inBlock, Exit.then])
      (try go_wp2_with fail)
      clear mk
      go_loopw [30] (fun vi wv => ∃ i : Nat, vi = .int .i64 (i : Int) ∧ i ≤ k ∧ (∀ j, j < i → lv nx k j ≤ k) ∧ OwnI wv G k (fun j => if j < i then (lv nx k j : Int) else 0) ∧ Below w.heap.size w wv) (fun vi _ => k - (intOf vi).toNat)
      case atStart => exact ⟨0, rfl, Nat.zero_le _, fun j hj => absurd hj (Nat.not_lt_zero _), (unhide O0).congr (fun j _ => by simp), unhide B0⟩
      case round =>
        obtain ⟨i, rfl, hi, hlv, hO, hb⟩ := hrel
        by_cases hlt2 : i < k
        · have e2 : (i : Int) < (k : Int) := by omega
          have HO := hide hO
          have HB := hide hb
          have HLV := hide hlv
          clear hO hb hlv
          go_wp2_with fail
          go_loopw [8] (fun vx wv => ∃ (t : Nat) (x : Int), vx = .int .i64 x ∧ t ≤ k ∧ -1 ≤ x ∧ x < (k : Int) ∧ lv nx k i = t + lvl nx (k + 1 - t) x ∧ OwnI wv G k (updI (fun j => if j < i then (lv nx k j : Int) else 0) i (t : Int)) ∧ Below w.heap.size w wv) (fun _ wv => k + 1 - cellN wv G i)
          case atStart =>
            refine ⟨0, (i : Int), rfl, Nat.zero_le _, by omega, by omega, ?_, ?_, unhide HB⟩
            · show lv nx k i = 0 + lvl nx (k + 1) (i : Int); rw [Nat.zero_add]; rfl
            · refine (unhide HO).congr (fun j _ => ?_)
              unfold updI
              by_cases c : j = i
              · rw [if_pos c, if_neg (by omega)]; rfl
              · rw [if_neg c]
          case round =>
            obtain ⟨t, x, rfl, ht, hx0, hx1, hle, hO2, hb2⟩ := hrel
            have hcn := hO2.cellN hlt2
            by_cases hx : 0 ≤ x
            · obtain ⟨y, rfl⟩ : ∃ y : Nat, x = (y : Int) := ⟨x.toNat, by omega⟩
              have hy : y < k := by omega
              obtain ⟨b, o, rfl, hbl, hc⟩ := ((unhide HA).below hb2).2.2 (by omega)
              have c0 := hc y hy
              have hng := unhide HG y hy
              have g1 := hO2.cell hlt2
              have g2 := hO2.free i
              rw [show updI (fun j => if j < i then (lv nx k j : Int) else 0) i (t : Int) i = (t : Int) by unfold updI; rw [if_pos rfl]] at g1 hcn
              have e3 : IntKind.i64.wrap ((t : Int) + 1) = (t : Int) + 1 := by rw [IntKind.wrap_i64]; omega
              have e4 : (0 : Int) ≤ (y : Int) := by omega
              have e5 : (0 : Int) ≤ (i : Int) := by omega
              have e6 : (y : Int) < (k : Int) := by omega
              have hstep : lvl nx (k + 1 - t) (y : Int) = 1 + lvl nx (k - t) (nx y) := by
                rw [show k + 1 - t = (k - t) + 1 by omega, lvl_pos nx (by omega), Int.toNat_natCast]
              have O3 := hO2.set i ((t : Int) + 1)
              have B3 := hb2.setCell (p := ⟨G, i, none⟩) (unhide HGe) (.int .i64 ((t : Int) + 1))
              have hbG : b ≠ G := by
                obtain ⟨b2, o2, e, h2, _⟩ := (unhide HA).2.2 (by omega)
                injection e with e
                injection e with e
                have := unhide HGe
                omega
              have c1 : (wr.setCell ⟨G, i, none⟩ (.int .i64 ((t : Int) + 1))).cell? ⟨b, o + y, none⟩ = some (.int .i64 (nx y)) := by
                rw [World.cell?_setCell_other _ _ _ _ (fun e => by injection e with e1 _; exact hbG e1.symm)]; exact c0
              obtain ⟨W3, hW3⟩ : ∃ V, wr.setCell ⟨G, i, none⟩ (.int .i64 ((t : Int) + 1)) = V := ⟨_, rfl⟩
              rw [hW3] at O3 B3 c1
              have g3 := O3.cell hlt2
              rw [show updI (updI (fun j => if j < i then (lv nx k j : Int) else 0) i (t : Int)) i ((t : Int) + 1) i = (t : Int) + 1 by unfold updI; rw [if_pos rfl]] at g3
              have O3' : OwnI W3 G k (updI (fun j => if j < i then (lv nx k j : Int) else 0) i ((t + 1 : Nat) : Int)) := O3.congr (fun j _ => by
                unfold updI
                by_cases c : j = i
                · rw [if_pos c, if_pos c]; omega
                · rw [if_neg c, if_neg c, if_neg c])
              have hcn3 := O3'.cellN hlt2
              rw [show updI (fun j => if j < i then (lv nx k j : Int) else 0) i ((t + 1 : Nat) : Int) i = ((t + 1 : Nat) : Int) by unfold updI; rw [if_pos rfl]] at hcn3
              have HO3 := hide O3'
              have HB3 := hide B3
              have HCN : Hid (cellN wr G i = t ∧ cellN W3 G i = t + 1) := ⟨by rw [hcn]; omega, by rw [hcn3]; omega⟩
              obtain ⟨u, g1'⟩ : ∃ u : Value, wr.cell? ⟨G, i, none⟩ = some u := ⟨_, g1⟩
              clear g1'
              by_cases hbig : k < t + 1
              · have e7 : (k : Int) < (t : Int) + 1 := by omega
                have HV : Hid (ncode k nx = 12) := ncode_round (unhide HG) hlt2 (by
                  rw [hle, hstep]
                  omega)
                clear hc hO2 hb2 O3 B3 O3' hcn hcn3 hstep hle hng
                go_wp2
                go_ret2
                exact ⟨unhide HB3, Or.inl ⟨by rw [unhide HV]; decide, by rw [unhide HV]; rfl⟩⟩
              · have e7 : ¬ (k : Int) < (t : Int) + 1 := by omega
                have HLE : Hid (lv nx k i = (t + 1) + lvl nx (k + 1 - (t + 1)) (nx y)) := by
                  show lv nx k i = _
                  rw [hle, hstep, show k + 1 - (t + 1) = k - t by omega]
                  omega
                have HNG := hide hng
                clear hc hO2 hb2 O3 B3 O3' hcn hcn3 hstep hle hng
                go_wp2
                have h1 := unhide HCN
                exact ⟨⟨t + 1, nx y, rfl, by omega, (unhide HNG).1, (unhide HNG).2, unhide HLE, unhide HO3, unhide HB3⟩, by rw [h1.1, h1.2]; omega⟩
            · have e3 : ¬ (0 : Int) ≤ x := hx
              have hlv : lv nx k i = t := by rw [hle, lvl_neg nx (by omega)]; rfl
              have HF : Hid ((∀ j, j < i + 1 → lv nx k j ≤ k) ∧ OwnI wr G k (fun j => if j < i + 1 then (lv nx k j : Int) else 0)) := by
                refine ⟨fun j hj => ?_, hO2.congr (fun j _ => ?_)⟩
                · by_cases c : j = i
                  · rw [c, hlv]; exact ht
                  · exact unhide HLV j (by omega)
                · unfold updI
                  by_cases c : j = i
                  · rw [if_pos c, if_pos (by omega), c, hlv]
                  · rw [if_neg c]
                    show (if j < i then (lv nx k j : Int) else 0) = _
                    by_cases c2 : j < i
                    · rw [if_pos c2, if_pos (by omega)]
                    · rw [if_neg c2, if_neg (by omega)]
              have HB2 := hide hb2
              have e4 : IntKind.i64.wrap ((i : Int) + 1) = (i : Int) + 1 := by rw [IntKind.wrap_i64]; omega
              clear hO2 hb2 hle hlv hcn hx0 hx1
              go_wp2_with fail
              (try simp only [Exit.inBlock, Exit.then])
              (try go_wp2_with fail)
              exact ⟨⟨i + 1, by go_num, hlt2, (unhide HF).1, (unhide HF).2, unhide HB2⟩, by simp [intOf]; omega⟩
        · obtain rfl : i = k := by omega
          have e2 : ¬ (i : Int) < (i : Int) := by omega
          have HV : Hid (ncode i nx = 0) := ncode_zero (unhide HG) hlv
          have HO : Hid (OwnI wr G i (fun j => (lv nx i j : Int))) := hO.congr (fun j hj => by rw [if_pos hj])
          have HB := hide hb
          clear hO hb hlv
          go_wp2
          (try simp only [Exit.inBlock, Exit.then])
          (try go_wp2)
          go_ret2
          exact ⟨unhide HB, Or.inr ⟨unhide HV, G, unhide HGe, rfl, unhide HO⟩⟩
end Go.Proofs.YtepgdlgifempeaaDoor
