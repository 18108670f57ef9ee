/- Several machines: rows of twos, what may be, Flow. -/
import Derived.Test.YtbbmhidnakghfaaY0
import Derived.Test.YtbbmhidnakghfaaM28
namespace Go.Proofs.Ytbbmhidnakghfaa
open Go.RowKit Go.Sort Go.ChangeShapes Go.WideShapes Go.ChangeAt Go.Joins Stb

/-- Two numbers. -/
abbrev T2 : Type := Int × Int
/-- A row of twos in memory: n of them, number j is f j. -/
def DRow (w : World) (a : Option Addr) (n c : Nat) (f : Nat → T2) : Prop :=
  n ≤ c ∧ c ≤ 9223372036854775807 ∧ (0 < n → ∃ b o, a = some ⟨b, o, none⟩ ∧ b < w.heap.size ∧ ∀ j, j < n → w.cell? ⟨b, o + j * 2, none⟩ = some (.int .i64 (f j).1) ∧ w.cell? ⟨b, o + j * 2 + 1, none⟩ = some (.int .i64 (f j).2))
theorem DRow.below {w w' : World} {a : Option Addr} {n c : Nat} {f : Nat → T2} (h : DRow w a n c f) (hb : Below w.heap.size w w') : DRow w' a n c f := by
  obtain ⟨h1, h2, h3⟩ := h
  refine ⟨h1, h2, fun hn => ?_⟩
  obtain ⟨b, o, e, hlt, hc⟩ := h3 hn
  refine ⟨b, o, e, Nat.lt_of_lt_of_le hlt hb.size, fun j hj => ?_⟩
  rw [hb.cell (p := ⟨b, o + j * 2, none⟩) hlt, hb.cell (p := ⟨b, o + j * 2 + 1, none⟩) hlt]
  exact hc j hj
/-- A box of two cells is kept. -/
theorem box2 {w w2 : World} {x y : Value} {T : TypeId} (h : Below (w.alloc (.cells #[x, y] T)).heap.size (w.alloc (.cells #[x, y] T)) w2) :
    w2.cell? ⟨w.heap.size, 0, none⟩ = some x ∧ w2.cell? ⟨w.heap.size, 1, none⟩ = some y := by
  have hs := alloc_size w (.cells #[x, y] T)
  rw [h.cell (p := ⟨w.heap.size, 0, none⟩) (by show w.heap.size < _; omega), h.cell (p := ⟨w.heap.size, 1, none⟩) (by show w.heap.size < _; omega)]
  simp only [World.cell?, heap_alloc_new]
  exact ⟨rfl, rfl⟩

section
variable {H : Type} {enc : TypeId × Value → H} {P : Program} {w : World} {base : Nat} {spare : Nat → Bool} {held : Bool}
theorem open_slice_twos {t e : TypeId} {f0 f1 : Field} {fuel : Nat} {cs : List Value} {x : DataW H × List MemPlace} (ht : P.underlying t = some (.slice e)) (he : P.underlying e = some (.struct #[f0, f1]))
    (ce : P.cellsOf e = 2) (o0 : f0.offset = 0) (o1 : f1.offset = 1) (c0 : P.cellsOf f0.type = 1) (c1 : P.cellsOf f1.type = 1)
    (h : DataW.trod enc P w base spare held fuel t cs = some x) :
    cs = [.slice none 0 0] ∨ ∃ (a : Addr) (len cap m n : Nat), cs = [.slice (some a) len cap] ∧ len ≤ cap ∧ cap ≤ maxLen ∧ m = (if spare a.block then cap else len) ∧
      ∀ i, i < m → ∃ V0 V1 D0 D1, w.cell? (a.add (i * 2)) = some V0 ∧ w.cell? (a.add (i * 2 + 1)) = some V1 ∧
        DataW.trod enc P w base spare held n f0.type [V0] = some D0 ∧ DataW.trod enc P w base spare held n f1.type [V1] = some D1 := by
  rcases Deep.open_slice ht h with h0 | ⟨a, len, cap, m, n, D, Pl, rfl, hb, hl, hm, hmm, rfl, hx⟩
  · exact Or.inl h0.1
  refine Or.inr ⟨a, len, cap, m, n - 1, rfl, hl, hm, hmm, fun i hi => ?_⟩
  obtain ⟨cs', h1, h2⟩ := hx i hi
  rw [ce] at h1
  obtain ⟨_, hlen, hcell⟩ := World.cells?_some h1
  obtain ⟨xs, k, hk, hxy, _, hxl, hf⟩ := DataW.trod_struct he h2
  have hk' : k = n - 1 := by omega
  subst hk'
  match xs, hxl, cs', hlen with
  | [y0, y1], _, [v0, v1], _ =>
    have g0 := hf 0 f0 rfl
    have g1 := hf 1 f1 rfl
    simp [o0, o1, c0, c1] at g0 g1
    have e0 := hcell 0 (by omega)
    have e1 := hcell 1 (by omega)
    rw [Go.Deep.add_add] at e0 e1
    exact ⟨v0, v1, y0, y1, by simpa using e0, by simpa using e1, g0, g1⟩
end
theorem Try.cellsD : Try.prog.cellsOf 37 = 2 := by kernel_rfl
set_option maxRecDepth 100000 in
/-- A row of twos that came in. -/
theorem drow_of_arg {H : Type} {enc : TypeId × Value → H} {W : World} {base : Nat} {v : Value} {d : DataW H} {p : List MemPlace} {tr te : TypeId} {f0 f1 : Field} (hu : Try.prog.underlying tr = some (.slice te)) (he : Try.prog.underlying te = some (.struct #[f0, f1])) (ce : Try.prog.cellsOf te = 2)
    (o0 : f0.offset = 0) (o1 : f1.offset = 1) (c0 : f0.type = 3) (c1 : f1.type = 3)
    (hval : Value.okWide Try.prog W .any base tr v) (h : DataW.Trod enc Try.prog W 0 (fun _ => true) true tr v d p) : ∃ a n c f, v = .slice a n c ∧ DRow W a n c f := by
  obtain ⟨a0, len, cap, rfl⟩ := okWide_slice hu hval
  obtain ⟨fuel, hf⟩ := h
  rcases open_slice_twos hu he ce o0 o1 (by rw [c0]; exact Try.cellsI) (by rw [c1]; exact Try.cellsI) hf with hcs | ⟨a, len', cap', m, n, hcs, hl, hm, hmm, hall⟩
  · have e : Value.slice a0 len cap = .slice none 0 0 := by simpa [Value.cells] using hcs
    injection e with e1 e2 e3
    subst e1 e2 e3
    exact ⟨none, 0, 0, fun _ => (0, 0), rfl, ⟨Nat.le_refl _, by decide, fun h => absurd h (Nat.lt_irrefl _)⟩⟩
  · have e : Value.slice a0 len cap = .slice (some a) len' cap' := by simpa [Value.cells] using hcs
    injection e with e1 e2 e3
    subst e1 e2 e3
    simp only [if_true] at hmm
    have each : ∀ i, i < len → ∃ q : T2, W.cell? (a.add (i * 2)) = some (.int .i64 q.1) ∧ W.cell? (a.add (i * 2 + 1)) = some (.int .i64 q.2) := fun i hi => by
      obtain ⟨V0, V1, D0, D1, k0, k1, t0, t1⟩ := hall i (by omega)
      rw [c0] at t0
      rw [c1] at t1
      obtain ⟨x, e0, ex, wx⟩ := DataW.trod_int Try.underlying3 t0
      obtain ⟨y, e1, ey, wy⟩ := DataW.trod_int Try.underlying3 t1
      simp at e0 e1
      rw [e0] at k0
      rw [e1] at k1
      exact ⟨(x, y), k0, k1⟩
    obtain ⟨F, hF⟩ := Deep.choose_lt each
    refine ⟨some a, len, cap, F, rfl, ⟨by simpa using hl, by unfold maxLen at hm; exact hm, fun hp => ?_⟩⟩
    obtain ⟨b, off, spot⟩ := a
    have hspot : spot = none := by simpa [Addr.add] using World.cell?_spot (hF 0 hp).1
    subst hspot
    refine ⟨b, off, rfl, World.block_lt_of_cell? W _ (hF 0 hp).1, fun j hj => ?_⟩
    have k0 := (hF j hj).1
    have k1 := (hF j hj).2
    rw [Go.WideShapes.add_plain] at k0 k1
    exact ⟨k0, k1⟩

set_option maxHeartbeats 1000000 in
theorem lasts_any (x : Int) (w : World) :
    Calls Try.prog 21 #[.int .i64 x] w fun e w' => e = .returned (.bool (decide (0 ≤ x ∧ x ≤ 1000000000))) ∧ w' = w := by
  by_cases h1 : 0 ≤ x
  · by_cases h2 : x ≤ 1000000000
    · rw [decide_eq_true (show 0 ≤ x ∧ x ≤ 1000000000 from ⟨h1, h2⟩)]
      go_enter Try.func21, Try.ntmps21
      go_wp2
      go_ret
      exact ⟨rfl, rfl⟩
    · rw [decide_eq_false (show ¬ (0 ≤ x ∧ x ≤ 1000000000) from fun h => h2 h.2)]
      go_enter Try.func21, Try.ntmps21
      go_wp2
      go_ret
      exact ⟨rfl, rfl⟩
  · rw [decide_eq_false (show ¬ (0 ≤ x ∧ x ≤ 1000000000) from fun h => h1 h.1)]
    go_enter Try.func21, Try.ntmps21
    go_wp2
    go_ret
    exact ⟨rfl, rfl⟩

def dbad (t : T2) : Bool := decide (¬ ((0 ≤ t.1 ∧ t.1 ≤ 1000000000) ∧ 0 ≤ t.2 ∧ t.2 ≤ 1000000000))
def dcode (n : Nat) (f : Nat → T2) : Int := if 60 < n then 4 else if (List.range n).any (fun j => dbad (f j)) then 2 else 0
theorem dcode_bad {n j : Nat} {f : Nat → T2} (hn : ¬ 60 < n) (hj : j < n) (h : dbad (f j) = true) : dcode n f = 2 := by
  unfold dcode
  rw [if_neg hn, if_pos]
  rw [List.any_eq_true]
  exact ⟨j, List.mem_range.2 hj, h⟩
theorem dcode_good {n : Nat} {f : Nat → T2} (hn : ¬ 60 < n) (h : ∀ j, j < n → dbad (f j) = false) : dcode n f = 0 := by
  unfold dcode
  rw [if_neg hn, if_neg]
  intro h'
  rw [List.any_eq_true] at h'
  obtain ⟨j, h1, h2⟩ := h'
  rw [h j (List.mem_range.1 h1)] at h2
  cases h2
/-- Twos that may be. -/
structure GoodD (n : Nat) (f : Nat → T2) : Prop where
  few : n ≤ 60
  a : ∀ i, i < n → 0 ≤ (f i).1 ∧ (f i).1 ≤ 1000000000
  b : ∀ i, i < n → 0 ≤ (f i).2 ∧ (f i).2 ≤ 1000000000
theorem goodD_of {n : Nat} {f : Nat → T2} (h : dcode n f = 0) : GoodD n f := by
  unfold dcode at h
  by_cases c : 60 < n
  · rw [if_pos c] at h; exact absurd h (by decide)
  · rw [if_neg c] at h
    by_cases c2 : (List.range n).any (fun j => dbad (f j)) = true
    · rw [if_pos c2] at h; exact absurd h (by decide)
    · have hb : ∀ i, i < n → (0 ≤ (f i).1 ∧ (f i).1 ≤ 1000000000) ∧ 0 ≤ (f i).2 ∧ (f i).2 ≤ 1000000000 := fun i hi => by
        have : dbad (f i) = false := by
          cases ht : dbad (f i) with
          | false => rfl
          | true => exact absurd (List.any_eq_true.2 ⟨i, List.mem_range.2 hi, ht⟩) c2
        exact Classical.not_not.1 (of_decide_eq_false (show decide (¬ ((0 ≤ (f i).1 ∧ (f i).1 ≤ 1000000000) ∧ 0 ≤ (f i).2 ∧ (f i).2 ≤ 1000000000)) = false from this))
      exact ⟨by omega, fun i hi => (hb i hi).1, fun i hi => (hb i hi).2⟩

set_option maxHeartbeats 4000000 in
theorem checkTwo_any (a : Option Addr) (n c : Nat) (f : Nat → T2) (w : World) (ha : DRow w a n c f) :
    Calls Try.prog 14 #[.slice a n c] w fun e w' => e = .returned (errV (dcode n f)) ∧ Below w.heap.size w w' := by
  obtain ⟨h1, h2, h3⟩ := ha
  have H3 := hide h3
  clear h3
  by_cases hn : 60 < n
  · have hv : errV (dcode n f) = .iface 42 (.int .i64 4) := by unfold dcode; rw [if_pos hn]; rfl
    rw [hv]
    have hn' : (60 : Int) < (n : Int) := by omega
    go_enter Try.func14, Try.ntmps14
    go_wp2
    go_ret
    exact ⟨rfl, Below.refl _ _⟩
  have hn' : ¬ (60 : Int) < (n : Int) := by omega
  have HN := hide hn
  go_enter Try.func14, Try.ntmps14
  go_wp2
  go_loopw [11] (fun vi wr => ∃ m : Nat, vi = .int .i64 (m : Int) ∧ m ≤ n ∧ (∀ j, j < m → dbad (f j) = false) ∧ Below w.heap.size w wr) (fun vi _ => n - (intOf vi).toNat)
  case atStart => exact ⟨0, rfl, Nat.zero_le _, fun j hj => absurd hj (Nat.not_lt_zero _), Below.refl _ _⟩
  case round =>
    obtain ⟨m, rfl, hm, hj, hb⟩ := hrel
    by_cases hlt : m < n
    · obtain ⟨b, o, rfl, hbl, hc⟩ := unhide H3 (by omega)
      have ⟨k0, k1⟩ := hc m hlt
      rw [← hb.cell (p := ⟨b, o + m * 2, none⟩) hbl] at k0
      rw [← hb.cell (p := ⟨b, o + m * 2 + 1, none⟩) hbl] at k1
      obtain ⟨⟨x, y⟩, hf⟩ : ∃ t, f m = t := ⟨_, rfl⟩
      rw [hf] at k0 k1
      simp only at k0 k1
      have e2 : (0 : Int) ≤ (m : Int) := by omega
      have e3 : (m : Int) < (n : Int) := by omega
      have HJ := hide hj
      have HF := hide hf
      have ⟨q0, q1⟩ := box2 (w := wr) (x := .int .i64 x) (y := .int .i64 y) (T := 37) (Below.refl _ _)
      have HFIN := hide (below_step hb (alloc_below wr (.cells #[.int .i64 x, .int .i64 y] 37)))
      obtain ⟨W1, hW1⟩ : ∃ W, wr.alloc (.cells #[.int .i64 x, .int .i64 y] 37) = W := ⟨_, rfl⟩
      rw [hW1] at q0 q1 HFIN
      have C1 := hide (lasts_any x W1)
      have C2 := hide (lasts_any y W1)
      clear hc H3 hb hj hf
      by_cases g1 : 0 ≤ x ∧ x ≤ 1000000000
      · rw [decide_eq_true g1] at C1
        by_cases g2 : 0 ≤ y ∧ y ≤ 1000000000
        · rw [decide_eq_true g2] at C2
          have HG : Hid (dbad (f m) = false) := by unfold dbad; rw [unhide HF]; exact decide_eq_false (fun h => h ⟨g1, g2⟩)
          clear g1 g2
          go_wp2_with fail
          refine (unhide C1).mono ?_
          rintro e_ w2 ⟨rfl, rfl⟩
          go_wp2_with fail
          refine (unhide C2).mono ?_
          rintro e_ w2 ⟨rfl, rfl⟩
          go_wp2
          refine ⟨⟨m + 1, by go_num, hlt, fun j hj => ?_, unhide HFIN⟩, by simp [intOf]; omega⟩
          by_cases hjm : j = m
          · rw [hjm]; exact unhide HG
          · exact unhide HJ j (by omega)
        · rw [decide_eq_false g2] at C2
          have HG : Hid (errV (dcode n f) = .iface 42 (.int .i64 2)) := by
            show errV (dcode n f) = _
            rw [dcode_bad (unhide HN) hlt (by unfold dbad; rw [unhide HF]; exact decide_eq_true (fun h => g2 h.2))]; rfl
          clear g1 g2
          go_wp2_with fail
          refine (unhide C1).mono ?_
          rintro e_ w2 ⟨rfl, rfl⟩
          go_wp2_with fail
          refine (unhide C2).mono ?_
          rintro e_ w2 ⟨rfl, rfl⟩
          go_wp2
          go_ret
          exact ⟨by rw [unhide HG]; rfl, unhide HFIN⟩
      · rw [decide_eq_false g1] at C1
        have HG : Hid (errV (dcode n f) = .iface 42 (.int .i64 2)) := by
          show errV (dcode n f) = _
          rw [dcode_bad (unhide HN) hlt (by unfold dbad; rw [unhide HF]; exact decide_eq_true (fun h => g1 h.1))]; rfl
        clear g1
        go_wp2_with fail
        refine (unhide C1).mono ?_
        rintro e_ w2 ⟨rfl, rfl⟩
        go_wp2
        go_ret
        exact ⟨by rw [unhide HG]; rfl, unhide HFIN⟩
    · obtain rfl : m = n := by omega
      have HV : Hid (errV (dcode m f) = .nilIface) := by show errV (dcode m f) = _; rw [dcode_good (unhide HN) hj]; rfl
      clear hj
      have e3 : ¬ (m : Int) < (m : Int) := by omega
      go_wp2
      go_ret
      exact ⟨by rw [unhide HV]; rfl, hb⟩

/-- When all is done. -/
def aD (f : Nat → T2) (i : Nat) : Int := (f i).1
def bD (f : Nat → T2) (i : Nat) : Int := (f i).2
def flowV (f : Nat → T2) (r : Nat → Int) (n : Nat) : Int := Shp.fl (aD f) (bD f) 0 0 (rl r n)
theorem flow_bd {n : Nat} {f : Nat → T2} {r : Nat → Int} (hD : GoodD n f) (h : GoodR n r) : ∀ k, k ≤ n → (0 ≤ Lin.psum (aD f) (rl r k) ∧ Lin.psum (aD f) (rl r k) ≤ 1000000000 * k) ∧ 0 ≤ flowV f r k ∧ flowV f r k ≤ 2000000000 * k
  | 0, _ => by
    show ((0 : Int) ≤ 0 ∧ (0 : Int) ≤ 1000000000 * ((0 : Nat) : Int)) ∧ (0 : Int) ≤ 0 ∧ (0 : Int) ≤ 2000000000 * ((0 : Nat) : Int)
    omega
  | k + 1, hk => by
    have ih := flow_bd hD h k (by omega)
    have a := h.rng k hk
    have b := hD.a (r k).toNat (by omega)
    have c := hD.b (r k).toNat (by omega)
    unfold flowV at ih ⊢
    rw [rl_succ, Lin.psum_append, Shp.fl_snoc]
    have e : Lin.psum (aD f) [(r k).toNat] = (f (r k).toNat).1 + 0 := rfl
    have e2 : aD f (r k).toNat = (f (r k).toNat).1 := rfl
    have e3 : bD f (r k).toNat = (f (r k).toNat).2 := rfl
    rw [e, e2, e3]
    omega
def fcode (n : Nat) (f : Nat → T2) (r : Nat → Int) (len : Nat) : Int := if dcode n f ≠ 0 then dcode n f else ocode r len n
structure FGood (n : Nat) (f : Nat → T2) (r : Nat → Int) (len : Nat) : Prop where
  d : GoodD n f
  r : GoodR n r
  l : len = n
theorem fgood_of {n len : Nat} {f : Nat → T2} {r : Nat → Int} (h : fcode n f r len = 0) : FGood n f r len := by
  unfold fcode at h
  by_cases c : dcode n f = 0
  · rw [if_neg (by simpa using c)] at h
    unfold ocode at h
    by_cases c2 : (len : Int) = n
    · have c3 : len = n := by omega
      subst c3
      rw [if_neg (by simp)] at h
      exact ⟨goodD_of c, goodR_of h, rfl⟩
    · rw [if_pos c2] at h; exact absurd h (by decide)
  · rw [if_pos c] at h; exact absurd h c
/-- What Flow says. -/
def FlowPost (w : World) (n : Nat) (f : Nat → T2) (r : Nat → Int) (len : Nat) (e : Ending) (w' : World) : Prop :=
  Below w.heap.size w w' ∧ ((fcode n f r len ≠ 0 ∧ e = .returned (.tuple #[.int .i64 0, .iface 42 (.int .i64 (fcode n f r len))])) ∨ (fcode n f r len = 0 ∧ e = .returned (.tuple #[.int .i64 (flowV f r n), .nilIface])))

set_option maxHeartbeats 4000000 in
theorem flow_any (a : Option Addr) (n c : Nat) (f : Nat → T2) (ra : Option Addr) (len rc : Nat) (r : Nat → Int) (w : World) (ha : DRow w a n c f) (hr : IRow w ra len rc r) (hlen : len ≤ 100000) :
    Calls Try.prog 10 #[.slice a n c, .slice ra len rc] w (FlowPost w n f r len) := by
  have HA := hide ha
  have HR := hide hr
  have HC := hide (checkTwo_any a n c f w ha)
  have HO : Hid (∀ W, Below w.heap.size w W → Calls Try.prog 19 #[.slice ra len rc, .int .i64 (n : Int)] W fun e w' => e = .returned (errV (ocode r len n)) ∧ Below W.heap.size W w') := fun W hW => order_any ra len rc r n W (hr.below hW) hlen
  clear ha hr
  by_cases ht : dcode n f = 0
  case neg =>
    rw [errV_not ht] at HC
    have HE : Hid (fcode n f r len = dcode n f) := by show fcode n f r len = _; unfold fcode; rw [if_pos ht]
    obtain ⟨k, hk⟩ : ∃ k, dcode n f = k := ⟨_, rfl⟩
    rw [hk] at HC HE ht
    have HT := hide ht
    clear hk ht HO
    go_enter Try.func10, Try.ntmps10
    go_wp2_with fail
    refine (unhide HC).mono ?_
    rintro e w1 ⟨rfl, hb1⟩
    go_wp2
    go_ret2
    refine ⟨hb1, Or.inl ?_⟩
    rw [unhide HE]
    exact ⟨unhide HT, rfl⟩
  rw [ht, errV_zero] at HC
  have HE : Hid (fcode n f r len = ocode r len n) := by show fcode n f r len = _; unfold fcode; rw [if_neg (by rw [ht]; decide)]
  by_cases ho : ocode r len n = 0
  case neg =>
    rw [errV_not ho] at HO
    obtain ⟨k, hk⟩ : ∃ k, ocode r len n = k := ⟨_, rfl⟩
    rw [hk] at HO HE ho
    have HT := hide ho
    clear hk ho ht
    go_enter Try.func10, Try.ntmps10
    go_wp2_with fail
    refine (unhide HC).mono ?_
    rintro e w1 ⟨rfl, hb1⟩
    have HO1 := hide (unhide HO w1 hb1)
    have HB1 := hide hb1
    clear HO hb1
    go_wp2_with fail
    refine (unhide HO1).mono ?_
    rintro e w2 ⟨rfl, hb2⟩
    have HB2 := hide (below_step (unhide HB1) hb2)
    clear hb2
    go_wp2
    go_ret2
    refine ⟨unhide HB2, Or.inl ?_⟩
    rw [unhide HE]
    exact ⟨unhide HT, rfl⟩
  rw [ho, errV_zero] at HO
  have HE0 : Hid (fcode n f r len = 0) := by show fcode n f r len = 0; rw [unhide HE]; exact ho
  obtain ⟨gD, gR, hl⟩ := fgood_of (unhide HE0)
  subst hl
  have HGD := hide gD
  have HGR := hide gR
  have hn60 := gD.few
  clear gD gR ht ho HE
  go_enter Try.func10, Try.ntmps10
  go_wp2_with fail
  refine (unhide HC).mono ?_
  rintro e w1 ⟨rfl, hb1⟩
  have HO1 := hide (unhide HO w1 hb1)
  have HB1 := hide hb1
  clear HO hb1
  go_wp2_with fail
  refine (unhide HO1).mono ?_
  rintro e w2 ⟨rfl, hb2⟩
  have HB := hide (below_step (unhide HB1) hb2)
  clear hb2 HO1 HB1 HC
  go_wp2_with fail
  go_loopw [8, 9, 26] (fun v1 v2 vi wr => ∃ k : Nat, vi = .int .i64 (k : Int) ∧ v1 = .int .i64 (Lin.psum (aD f) (rl r k)) ∧ v2 = .int .i64 (flowV f r k) ∧ k ≤ len ∧ Below w.heap.size w wr) (fun _ _ vi _ => len - (intOf vi).toNat)
  case atStart => exact ⟨0, rfl, rfl, rfl, Nat.zero_le _, unhide HB⟩
  case round =>
    obtain ⟨k, rfl, rfl, rfl, hk, hb⟩ := hrel
    by_cases hlt : k < len
    · obtain ⟨b, o, rfl, hbl, hc3⟩ := ((unhide HA).below hb).2.2 (by omega)
      obtain ⟨b', o', rfl, hbl', hc1⟩ := ((unhide HR).below hb).2.2 (by omega)
      have hrg := (unhide HGR).rng k hlt
      have hps := flow_bd (unhide HGD) (unhide HGR) k (by omega)
      have c0 := hc1 k hlt
      obtain ⟨i, hi⟩ : ∃ i : Nat, (r k).toNat = i := ⟨_, rfl⟩
      have hri : r k = (i : Int) := by omega
      rw [hri] at c0
      have hin : i < len := by omega
      have ⟨k0, k1⟩ := hc3 i hin
      have hp := (unhide HGD).a i hin
      have hp2 := (unhide HGD).b i hin
      have FT : Hid (Lin.psum (aD f) (rl r (k + 1)) = Lin.psum (aD f) (rl r k) + (f i).1) := by
        show Lin.psum (aD f) (rl r (k + 1)) = _
        rw [rl_succ, Lin.psum_append, hi]
        show _ + ((f i).1 + 0) = _
        omega
      have FSum : Hid (flowV f r (k + 1) = max (Lin.psum (aD f) (rl r k) + (f i).1) (flowV f r k) + (f i).2) := by
        show flowV f r (k + 1) = _
        unfold flowV
        rw [rl_succ, Shp.fl_snoc, hi, Int.zero_add]
        rfl
      obtain ⟨x, hx⟩ : ∃ x, (f i).1 = x := ⟨_, rfl⟩
      obtain ⟨y, hy⟩ : ∃ y, (f i).2 = y := ⟨_, rfl⟩
      rw [hx] at k0 hp FT FSum
      rw [hy] at k1 hp2 FSum
      obtain ⟨t, ht⟩ : ∃ t, Lin.psum (aD f) (rl r k) = t := ⟨_, rfl⟩
      obtain ⟨s, hs⟩ : ∃ s, flowV f r k = s := ⟨_, rfl⟩
      rw [ht, hs] at hps FSum
      rw [ht] at FT
      rw [ht, hs]
      have e1 : (0 : Int) ≤ (k : Int) := by omega
      have e2 : (k : Int) < (len : Int) := by omega
      have e3 : (0 : Int) ≤ (i : Int) := by omega
      have e4 : (i : Int) < (len : Int) := by omega
      obtain ⟨u, hu⟩ : ∃ u, t + x = u := ⟨_, rfl⟩
      have e5 : IntKind.i64.wrap (t + x) = u := by rw [IntKind.wrap_i64]; omega
      rw [hu] at FT FSum
      obtain ⟨mx, hmx⟩ : ∃ mx, (if u < s then s else u) = mx := ⟨_, rfl⟩
      have e7 : max u s = mx := by rw [← hmx]; split <;> omega
      rw [e7] at FSum
      have e8 : IntKind.i64.wrap (mx + y) = mx + y := by rw [IntKind.wrap_i64]; omega
      have e6 : IntKind.i64.wrap ((k : Int) + 1) = (k : Int) + 1 := by rw [IntKind.wrap_i64]; omega
      have HB' := hide hb
      clear hc3 hc1 hb hrg hps hi hri hp hp2 hx hy ht hs hu e7
      go_wp2
      exact ⟨⟨k + 1, by go_num, by rw [unhide FT], by rw [unhide FSum], hlt, unhide HB'⟩, by simp [intOf]; omega⟩
    · obtain rfl : k = len := by omega
      have e1 : ¬ (k : Int) < (k : Int) := by omega
      have HB' := hide hb
      obtain ⟨s, hs⟩ : ∃ s, flowV f r k = s := ⟨_, rfl⟩
      rw [hs]
      have HS := hide hs
      clear hb hs
      go_wp2
      go_ret2
      exact ⟨unhide HB', Or.inr ⟨unhide HE0, by rw [unhide HS]; rfl⟩⟩
end Go.Proofs.Ytbbmhidnakghfaa
