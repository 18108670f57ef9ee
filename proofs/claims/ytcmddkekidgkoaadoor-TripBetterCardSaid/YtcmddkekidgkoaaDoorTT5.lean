/- Round ways: each once; the same both ways; a piece turned over. -/
import Derived.Test.YtcmddkekidgkoaaDoorTT2
namespace Go.Proofs.YtcmddkekidgkoaaDoor
open Go.RowKit Go.Sort Go.Shelf

set_option maxHeartbeats 1000000 in
theorem within_any (x m : Int) (w : World) :
    Calls Tryd.prog 98 #[.int .i64 x, .int .i64 m] w fun e w' => e = .returned (.bool (decide (0 ≤ x ∧ x ≤ m))) ∧ w' = w := by
  by_cases h1 : 0 ≤ x
  · by_cases h2 : x ≤ m
    · rw [decide_eq_true (show 0 ≤ x ∧ x ≤ m from ⟨h1, h2⟩)]
      go_enter Tryd.func98, Tryd.ntmps98
      go_wp2
      go_ret
      exact ⟨rfl, rfl⟩
    · rw [decide_eq_false (show ¬ (0 ≤ x ∧ x ≤ m) from fun h => h2 h.2)]
      go_enter Tryd.func98, Tryd.ntmps98
      go_wp2
      go_ret
      exact ⟨rfl, rfl⟩
  · rw [decide_eq_false (show ¬ (0 ≤ x ∧ x ≤ m) from fun h => h1 h.1)]
    go_enter Tryd.func98, Tryd.ntmps98
    go_wp2
    go_ret
    exact ⟨rfl, rfl⟩
/-- The first fault of a row of numbers that should be each of n once. -/
def stood (r : Nat → Int) (k : Nat) (x : Int) : Bool := (List.range k).any (fun j => r j == x)
theorem stood_succ (r : Nat → Int) (k : Nat) (x : Int) : stood r (k + 1) x = (stood r k x || r k == x) := by
  unfold stood
  rw [List.range_succ, List.any_append]
  simp
theorem stood_true {r : Nat → Int} {k : Nat} {x : Int} : stood r k x = true ↔ ∃ j, j < k ∧ r j = x := by
  unfold stood
  rw [List.any_eq_true]
  constructor
  · rintro ⟨j, h1, h2⟩; exact ⟨j, List.mem_range.1 h1, by simpa using h2⟩
  · rintro ⟨j, h1, h2⟩; exact ⟨j, List.mem_range.2 h1, by simpa using h2⟩
def oc (r : Nat → Int) (n : Nat) : Nat → Int
  | 0 => 0
  | k + 1 => if oc r n k ≠ 0 then oc r n k else if r k < 0 ∨ (n : Int) ≤ r k then 2 else if stood r k (r k) then 9 else 0
theorem oc_stays {r : Nat → Int} {n m : Nat} (h : oc r n m ≠ 0) : ∀ d, oc r n (m + d) = oc r n m
  | 0 => rfl
  | d + 1 => by
    have ih := oc_stays h d
    show (if oc r n (m + d) ≠ 0 then oc r n (m + d) else _) = _
    rw [ih, if_pos h]
theorem oc_end {r : Nat → Int} {n m k : Nat} {c : Int} (h : oc r n (m + 1) = c) (hc : c ≠ 0) (hm : m < k) : oc r n k = c := by
  obtain ⟨d, rfl⟩ := Nat.le.dest (show m + 1 ≤ k by omega)
  rw [oc_stays (by rw [h]; exact hc), h]
theorem oc_range {r : Nat → Int} {n m : Nat} (h0 : oc r n m = 0) (h : r m < 0 ∨ (n : Int) ≤ r m) : oc r n (m + 1) = 2 := by
  show (if oc r n m ≠ 0 then _ else if r m < 0 ∨ (n : Int) ≤ r m then 2 else _) = _
  rw [if_neg (by rw [h0]; decide), if_pos h]
theorem oc_many {r : Nat → Int} {n m : Nat} (h0 : oc r n m = 0) (h : ¬ (r m < 0 ∨ (n : Int) ≤ r m)) (h2 : stood r m (r m) = true) : oc r n (m + 1) = 9 := by
  show (if oc r n m ≠ 0 then _ else if r m < 0 ∨ (n : Int) ≤ r m then 2 else if stood r m (r m) then 9 else 0) = _
  rw [if_neg (by rw [h0]; decide), if_neg h, if_pos h2]
theorem oc_good {r : Nat → Int} {n m : Nat} (h0 : oc r n m = 0) (h : ¬ (r m < 0 ∨ (n : Int) ≤ r m)) (h2 : stood r m (r m) = false) : oc r n (m + 1) = 0 := by
  show (if oc r n m ≠ 0 then _ else if r m < 0 ∨ (n : Int) ≤ r m then 2 else if stood r m (r m) then 9 else 0) = _
  rw [if_neg (by rw [h0]; decide), if_neg h, if_neg (by rw [h2]; decide)]
theorem oc_zero {r : Nat → Int} {n : Nat} : ∀ {k : Nat}, oc r n k = 0 → ∀ i, i < k → 0 ≤ r i ∧ r i < (n : Int) ∧ stood r i (r i) = false
  | k + 1, h, i, hi => by
    have h' : (if oc r n k ≠ 0 then oc r n k else if r k < 0 ∨ (n : Int) ≤ r k then 2 else if stood r k (r k) then 9 else 0) = (0 : Int) := h
    by_cases c1 : oc r n k = 0
    · rw [if_neg (by simpa using c1)] at h'
      by_cases c2 : r k < 0 ∨ (n : Int) ≤ r k
      · rw [if_pos c2] at h'; exact absurd h' (by decide)
      · rw [if_neg c2] at h'
        by_cases c3 : stood r k (r k) = true
        · rw [if_pos c3] at h'; exact absurd h' (by decide)
        · rcases Nat.lt_or_ge i k with c | c
          · exact oc_zero c1 i c
          · obtain rfl : i = k := by omega
            exact ⟨by omega, by omega, by simpa using c3⟩
    · rw [if_pos c1] at h'; exact absurd h' c1
/-- A row that is each of n once. -/
structure GoodR (n : Nat) (r : Nat → Int) : Prop where
  rng : ∀ i, i < n → 0 ≤ r i ∧ r i < (n : Int)
  inj : ∀ i j, i < n → j < n → r i = r j → i = j
theorem goodR_of {n : Nat} {r : Nat → Int} (h : oc r n n = 0) : GoodR n r := by
  have h1 := oc_zero h
  have key : ∀ i j, i < j → j < n → r i ≠ r j := fun i j hij hj e => by
    have h2 := (h1 j hj).2.2
    have h3 : stood r j (r j) = true := stood_true.2 ⟨i, hij, e⟩
    rw [h2] at h3; cases h3
  refine ⟨fun i hi => ⟨(h1 i hi).1, (h1 i hi).2.1⟩, fun i j hi hj e => ?_⟩
  rcases Nat.lt_trichotomy i j with c | c | c
  · exact absurd e (key i j c hj)
  · exact c
  · exact absurd e.symm (key j i c hi)
theorem oc_of_good {n : Nat} {r : Nat → Int} (h : GoodR n r) : ∀ k, k ≤ n → oc r n k = 0
  | 0, _ => rfl
  | k + 1, hk => by
    have h1 := h.rng k hk
    refine oc_good (oc_of_good h k (by omega)) (by omega) ?_
    cases c : stood r k (r k) with
    | false => rfl
    | true =>
      obtain ⟨j, h2, h3⟩ := stood_true.1 c
      have := h.inj j k (by omega) hk h3
      omega
def ocode (r : Nat → Int) (len : Nat) (n : Int) : Int := if (len : Int) ≠ n then 3 else oc r len len
set_option maxHeartbeats 4000000 in
theorem order_any (a : Option Addr) (len c : Nat) (r : Nat → Int) (n : Int) (w : World) (ha : IRow w a len c r) (hlen : len ≤ 100000) :
    Calls Tryd.prog 75 #[.slice a len c, .int .i64 n] w fun e w' => e = .returned (errV (ocode r len n)) ∧ Below w.heap.size w w' := by
  obtain ⟨h1, h2, h3⟩ := ha
  have H3 := hide h3
  clear h3
  by_cases hne : (len : Int) = n
  case neg =>
    have hv : errV (ocode r len n) = .iface 25 (.int .i64 3) := by unfold ocode; rw [if_pos hne]; rfl
    rw [hv]
    have e0 : ((len : Int) == n) = false := by simpa using hne
    go_enter Tryd.func75, Tryd.ntmps75
    go_wp2
    go_ret
    exact ⟨rfl, Below.refl _ _⟩
  subst hne
  have hv0 : ocode r len len = oc r len len := by unfold ocode; rw [if_neg (by simp)]
  rw [hv0]
  have mk := make_bools len (by omega) w
  have O0 := hide (make_ownB w len)
  have B0 := hide (alloc_below w (.cells (brow (fun _ => false) len).toArray 4))
  obtain ⟨W0, hW0⟩ : ∃ W, w.alloc (.cells (brow (fun _ => false) len).toArray 4) = W := ⟨_, rfl⟩
  rw [hW0] at mk O0 B0
  obtain ⟨G, hG⟩ : ∃ G, w.heap.size = G := ⟨_, rfl⟩
  rw [hG] at mk O0
  have HG := hide hG
  clear hW0 hG hv0
  have e00 : ((len : Int) == (len : Int)) = true := by simp
  go_enter Tryd.func75, Tryd.ntmps75
  go_wp2_with fail
  clear mk e00
  go_loopw [17] (fun vi wr => ∃ m : Nat, vi = .int .i64 (m : Int) ∧ m ≤ len ∧ oc r len m = 0 ∧ OwnB wr G len (fun i => stood r m (i : Int)) ∧ Below w.heap.size w wr) (fun vi _ => len - (intOf vi).toNat)
  case atStart => exact ⟨0, rfl, Nat.zero_le _, rfl, unhide O0, unhide B0⟩
  case round =>
    obtain ⟨m, rfl, hm, hj, hO, hb⟩ := hrel
    by_cases hlt : m < len
    · obtain ⟨b, o, rfl, hbl, hc⟩ := unhide H3 (by omega)
      have k0 := hc m hlt
      rw [← hb.cell (p := ⟨b, o + m, none⟩) hbl] at k0
      obtain ⟨x, hx⟩ : ∃ x, r m = x := ⟨_, rfl⟩
      rw [hx] at k0
      have e2 : (0 : Int) ≤ (m : Int) := by omega
      have e3 : (m : Int) < (len : Int) := by omega
      have e4 : IntKind.i64.wrap ((len : Int) - 1) = (len : Int) - 1 := by rw [IntKind.wrap_i64]; omega
      have C1 := hide (within_any x ((len : Int) - 1) wr)
      have HB := hide hb
      have HJ := hide hj
      have HX := hide hx
      have HO := hide hO
      clear hc H3 hb hj hx hO
      by_cases g1 : 0 ≤ x ∧ x ≤ (len : Int) - 1
      · rw [decide_eq_true g1] at C1
        obtain ⟨i, rfl⟩ : ∃ i : Nat, x = (i : Int) := ⟨x.toNat, by omega⟩
        have hi : i < len := by omega
        have c0 := (unhide HO).cell hi
        have l0 := (unhide HO).free i
        have e5 : (0 : Int) ≤ (i : Int) := by omega
        have e6 : (i : Int) < (len : Int) := by omega
        by_cases g2 : stood r m (i : Int) = true
        · rw [g2] at c0
          have HV : Hid (errV (oc r len len) = .iface 25 (.int .i64 9)) := by
            show errV (oc r len len) = _
            rw [oc_end (oc_many (unhide HJ) (by rw [unhide HX]; omega) (by rw [unhide HX]; exact g2)) (by decide) hlt]; rfl
          clear g1 g2 l0
          go_wp2_with fail
          refine (unhide C1).mono ?_
          rintro e_ w2 ⟨rfl, rfl⟩
          go_wp2
          go_ret
          exact ⟨by rw [unhide HV]; rfl, unhide HB⟩
        · have g3 : stood r m (i : Int) = false := by simpa using g2
          rw [g3] at c0
          have HJ' := hide (oc_good (unhide HJ) (by rw [unhide HX]; omega) (by rw [unhide HX]; exact g3))
          have FIN := hide ((unhide HO).set i true)
          have FB := hide ((unhide HB).setCell (p := ⟨G, i, none⟩) (Nat.le_of_eq (unhide HG)) (.bool true))
          clear g1 g2 g3
          go_wp2_with fail
          refine (unhide C1).mono ?_
          rintro e_ w2 ⟨rfl, rfl⟩
          go_wp2
          refine ⟨⟨m + 1, by go_num, hlt, unhide HJ', (unhide FIN).congr (fun j hj => ?_), unhide FB⟩, by simp [intOf]; omega⟩
          rw [stood_succ, unhide HX]
          unfold updB
          by_cases hji : j = i
          · subst hji; rw [if_pos rfl]; simp
          · rw [if_neg hji]
            have : ((i : Int) == (j : Int)) = false := by simp; omega
            rw [this, Bool.or_false]
      · rw [decide_eq_false g1] at C1
        have HV : Hid (errV (oc r len len) = .iface 25 (.int .i64 2)) := by
          show errV (oc r len len) = _
          rw [oc_end (oc_range (unhide HJ) (by rw [unhide HX]; omega)) (by decide) hlt]; rfl
        clear g1
        go_wp2_with fail
        refine (unhide C1).mono ?_
        rintro e_ w2 ⟨rfl, rfl⟩
        go_wp2
        go_ret
        exact ⟨by rw [unhide HV]; rfl, unhide HB⟩
    · obtain rfl : m = len := by omega
      have HV : Hid (errV (oc r m m) = .nilIface) := by show errV (oc r m m) = _; rw [hj]; rfl
      clear hj hO
      have e3 : ¬ (m : Int) < (m : Int) := by omega
      go_wp2
      go_ret
      exact ⟨by rw [unhide HV]; rfl, hb⟩
set_option maxHeartbeats 4000000 in
theorem rorder_any (a : Option Addr) (len c : Nat) (r : Nat → Int) (n : Int) (w : World) (ha : IRow w a len c r) (hlen : len ≤ 100000) :
    Calls Tryd.prog 39 #[.slice a len c, .int .i64 n] w fun e w' => e = .returned (.int .i64 (ocode r len n)) ∧ Below w.heap.size w w' := by
  obtain ⟨h1, h2, h3⟩ := ha
  have H3 := hide h3
  clear h3
  by_cases hne : (len : Int) = n
  case neg =>
    have hv : ocode r len n = 3 := by unfold ocode; rw [if_pos hne]
    rw [hv]
    have e0 : ((len : Int) == n) = false := by simpa using hne
    go_enter Tryd.func39, Tryd.ntmps39
    go_wp2
    go_ret
    exact ⟨rfl, Below.refl _ _⟩
  subst hne
  have hv0 : ocode r len len = oc r len len := by unfold ocode; rw [if_neg (by simp)]
  rw [hv0]
  obtain ⟨V, hV⟩ : ∃ v, oc r len len = v := ⟨_, rfl⟩
  have HV := hide hV
  rw [hV]
  clear hv0 hV
  have e00 : ((len : Int) == (len : Int)) = true := by simp
  go_enter Tryd.func39, Tryd.ntmps39
  go_wp2_with fail
  clear e00
  go_loopw [15] (fun vi wr => ∃ m : Nat, vi = .int .i64 (m : Int) ∧ m ≤ len ∧ oc r len m = 0 ∧ Below w.heap.size w wr) (fun vi _ => len - (intOf vi).toNat)
  case atStart => exact ⟨0, rfl, Nat.zero_le _, rfl, Below.refl _ _⟩
  case round =>
    obtain ⟨m, rfl, hm, hj, hb⟩ := hrel
    by_cases hlt : m < len
    · obtain ⟨b, o, rfl, hbl, hc⟩ := unhide H3 (by omega)
      have HC := hide hc
      have k0 := hc m hlt
      rw [← hb.cell (p := ⟨b, o + m, none⟩) hbl] at k0
      obtain ⟨x, hx⟩ : ∃ x, r m = x := ⟨_, rfl⟩
      rw [hx] at k0
      have e2 : (0 : Int) ≤ (m : Int) := by omega
      have e3 : (m : Int) < (len : Int) := by omega
      have HB := hide hb
      have HJ := hide hj
      have HX := hide hx
      have mc : m ≤ c := by omega
      clear hc H3 hb hj hx
      by_cases g0 : x < 0
      · obtain rfl : V = 2 := by have := oc_end (oc_range (unhide HJ) (by rw [unhide HX]; omega)) (by decide) hlt; have h2 := unhide HV; omega
        go_wp2
        go_ret
        exact ⟨rfl, unhide HB⟩
      by_cases g1 : (len : Int) ≤ x
      · obtain rfl : V = 2 := by have := oc_end (oc_range (unhide HJ) (by rw [unhide HX]; omega)) (by decide) hlt; have h2 := unhide HV; omega
        go_wp2
        go_ret
        exact ⟨rfl, unhide HB⟩
      have e6 : IntKind.i64.wrap ((m : Int) + 1) = (m : Int) + 1 := by rw [IntKind.wrap_i64]; omega
      go_wp2_with fail
      go_loopw [31] (fun vi wv => ∃ j : Nat, vi = .int .i64 (j : Int) ∧ j ≤ m ∧ (∀ i, i < j → r i ≠ x) ∧ wv = wr) (fun vi _ => m - (intOf vi).toNat)
      case atStart => exact ⟨0, rfl, Nat.zero_le _, fun i hi => absurd hi (Nat.not_lt_zero _), rfl⟩
      case round =>
        obtain ⟨j, rfl, hjm, hall, rfl⟩ := hrel
        by_cases hjl : j < m
        · have kj := unhide HC j (by omega)
          rw [← (unhide HB).cell (p := ⟨b, o + j, none⟩) (Nat.lt_of_lt_of_le (World.block_lt_of_cell? w _ kj) (Nat.le_refl _))] at kj
          obtain ⟨y, hy⟩ : ∃ y, r j = y := ⟨_, rfl⟩
          rw [hy] at kj
          have HY := hide hy
          have HALL := hide hall
          have f2 : (0 : Int) ≤ (j : Int) := by omega
          have f3 : (j : Int) < (m : Int) := by omega
          have f6 : IntKind.i64.wrap ((j : Int) + 1) = (j : Int) + 1 := by rw [IntKind.wrap_i64]; omega
          clear hy hall
          by_cases hxy : x = y
          · obtain rfl : V = 9 := by
              have h := oc_end (oc_many (unhide HJ) (by rw [unhide HX]; omega) (stood_true.2 ⟨j, hjl, by rw [unhide HX, unhide HY]; exact hxy.symm⟩)) (by decide) hlt
              have h2 := unhide HV; omega
            subst hxy
            have q1 : (x == x) = true := by simp
            go_wp2
            go_ret
            exact ⟨rfl, unhide HB⟩
          · have q1 : (x == y) = false := by simpa using hxy
            go_wp2
            refine ⟨⟨j + 1, by go_num, hjl, fun i hi => ?_, by trivial⟩, by simp [intOf]; omega⟩
            rcases Nat.lt_or_ge i j with c1 | c1
            · exact unhide HALL i c1
            · rw [show i = j by omega, unhide HY]; exact fun e => hxy e.symm
        · obtain rfl : j = m := by omega
          have f3 : ¬ (j : Int) < (j : Int) := by omega
          have HJ' : Hid (oc r len (j + 1) = 0) := by
            refine oc_good (unhide HJ) (by rw [unhide HX]; omega) ?_
            cases cs : stood r j (r j) with
            | false => rfl
            | true =>
              obtain ⟨i, h1, h2⟩ := stood_true.1 cs
              rw [unhide HX] at h2
              exact absurd h2 (hall i h1)
          clear hall
          go_wp2_with fail
          (try simp only [Exit.inBlock, Exit.then])
          (try go_wp2_with fail)
          exact ⟨⟨j + 1, by go_num, hlt, unhide HJ', unhide HB⟩, by simp [intOf]; omega⟩
    · obtain rfl : m = len := by omega
      obtain rfl : V = 0 := by have h2 := unhide HV; omega
      clear hj
      have e3 : ¬ (m : Int) < (m : Int) := by omega
      go_wp2
      go_ret
      exact ⟨rfl, hb⟩

/-- Sums of the first. -/
def gsT (f : Nat → Int) : Nat → Int
  | 0 => 0
  | k + 1 => gsT f k + f k
theorem gsT_congr {f g : Nat → Int} : ∀ {k : Nat}, (∀ j, j < k → f j = g j) → gsT f k = gsT g k
  | 0, _ => rfl
  | k + 1, h => by show gsT f k + f k = gsT g k + g k; rw [gsT_congr (fun j hj => h j (by omega)), h k (by omega)]
theorem gsT_add (f : Nat → Int) (a : Nat) : ∀ b, gsT f (a + b) = gsT f a + gsT (fun j => f (a + j)) b
  | 0 => by show gsT f a = gsT f a + 0; omega
  | b + 1 => by
    have ih := gsT_add f a b
    show gsT f (a + b) + f (a + b) = gsT f a + (gsT (fun j => f (a + j)) b + f (a + b))
    rw [ih]; omega
theorem gsT_front (f : Nat → Int) : ∀ m, gsT f (m + 1) = f 0 + gsT (fun j => f (j + 1)) m
  | 0 => by show (0 : Int) + f 0 = f 0 + 0; omega
  | m + 1 => by
    have ih := gsT_front f m
    show gsT f (m + 1) + f (m + 1) = f 0 + (gsT (fun j => f (j + 1)) m + f (m + 1))
    rw [ih]; omega
theorem gsT_rev (h : Nat → Int) : ∀ m, gsT (fun j => h (m - 1 - j)) m = gsT h m
  | 0 => rfl
  | m + 1 => by
    have ih := gsT_rev h m
    rw [gsT_front]
    show h (m + 1 - 1 - 0) + gsT (fun j => h (m + 1 - 1 - (j + 1))) m = gsT h m + h m
    rw [← ih, show m + 1 - 1 - 0 = m by omega, gsT_congr (g := fun j => h (m - 1 - j)) (fun j _ => by show h _ = h _; congr 1; omega)]
    omega
/-- A row whose piece from i to k is turned over. -/
def turnV (V : Nat → Int) (i k : Nat) : Nat → Int := fun j => if i ≤ j ∧ j ≤ k then V (i + k - j) else V j
theorem turnV_in {V : Nat → Int} {i k j : Nat} (h1 : i ≤ j) (h2 : j ≤ k) : turnV V i k j = V (i + k - j) := if_pos ⟨h1, h2⟩
theorem turnV_out {V : Nat → Int} {i k j : Nat} (h : ¬ (i ≤ j ∧ j ≤ k)) : turnV V i k j = V j := if_neg h
def SymR (n : Nat) (R : Nat → Nat → Int) : Prop := ∀ i j, i < n → j < n → R i j = R j i
def symB (n : Nat) (R : Nat → Nat → Int) : Bool := (List.range n).all fun i => (List.range n).all fun j => R i j == R j i
theorem symB_true {n : Nat} {R : Nat → Nat → Int} : symB n R = true ↔ SymR n R := by
  unfold symB
  rw [List.all_eq_true]
  constructor
  · intro h i j hi hj
    have h2 := List.all_eq_true.1 (h i (List.mem_range.2 hi)) j (List.mem_range.2 hj)
    simpa using h2
  · intro h i hi
    rw [List.all_eq_true]
    intro j hj
    simpa using h i j (List.mem_range.1 hi) (List.mem_range.1 hj)
theorem symB_false {n : Nat} {R : Nat → Nat → Int} (h : ¬ SymR n R) : symB n R = false := by
  cases hb : symB n R with
  | false => rfl
  | true => exact absurd (symB_true.1 hb) h
def edgeV (R : Nat → Nat → Int) (V : Nat → Int) (p j : Nat) : Int := R (V j).toNat (V ((j + 1) % p)).toNat
theorem rlW_gsT (R : Nat → Nat → Int) (V : Nat → Int) (p : Nat) : ∀ k, rlW R V p k = gsT (edgeV R V p) k
  | 0 => rfl
  | k + 1 => by show rlW R V p k + _ = gsT _ k + _; rw [rlW_gsT R V p k]; rfl
theorem sum_split {f : Nat → Int} {i k p : Nat} (hi : 1 ≤ i) (hk : i < k) (hp : k < p) :
    gsT f p = gsT f (i - 1) + f (i - 1) + gsT (fun j => f (i + j)) (k - i) + f k + gsT (fun j => f (k + 1 + j)) (p - (k + 1)) := by
  have a1 := gsT_add f (k + 1) (p - (k + 1))
  rw [show k + 1 + (p - (k + 1)) = p by omega] at a1
  have a2 : gsT f (k + 1) = gsT f k + f k := rfl
  have a3 := gsT_add f i (k - i)
  rw [show i + (k - i) = k by omega] at a3
  have a4 : gsT f i = gsT f (i - 1) + f (i - 1) := by
    obtain ⟨q, rfl⟩ : ∃ q, i = q + 1 := ⟨i - 1, by omega⟩
    rfl
  omega
/-- What turning a piece over does to the length. -/
theorem turn_len {n p i k : Nat} {R : Nat → Nat → Int} {V : Nat → Int} (hS : SymR n R) (hV : ∀ j, j < p → 0 ≤ V j ∧ V j < (n : Int)) (hi : 1 ≤ i) (hk : i < k) (hp : k < p) :
    lngW R (turnV V i k) p - lngW R V p = (R (V (i - 1)).toNat (V k).toNat + R (V i).toNat (V ((k + 1) % p)).toNat) - (R (V (i - 1)).toNat (V i).toNat + R (V k).toNat (V ((k + 1) % p)).toNat) := by
  rw [← lng_rl R V (by omega), ← lng_rl R (turnV V i k) (by omega), rlW_gsT, rlW_gsT, sum_split (f := edgeV R V p) hi hk hp, sum_split (f := edgeV R (turnV V i k) p) hi hk hp]
  have b1 : gsT (edgeV R (turnV V i k) p) (i - 1) = gsT (edgeV R V p) (i - 1) := gsT_congr fun j hj => by
    unfold edgeV
    rw [turnV_out (by omega), Nat.mod_eq_of_lt (show j + 1 < p by omega), turnV_out (by omega)]
  have b2 : edgeV R (turnV V i k) p (i - 1) = R (V (i - 1)).toNat (V k).toNat := by
    unfold edgeV
    rw [turnV_out (by omega), Nat.mod_eq_of_lt (show i - 1 + 1 < p by omega), turnV_in (by omega) (by omega), show i + k - (i - 1 + 1) = k by omega]
  have b3 : edgeV R V p (i - 1) = R (V (i - 1)).toNat (V i).toNat := by
    unfold edgeV
    rw [Nat.mod_eq_of_lt (show i - 1 + 1 < p by omega), show i - 1 + 1 = i by omega]
  have hmod : ∀ j, k ≤ j → j < p → ¬ (i ≤ (j + 1) % p ∧ (j + 1) % p ≤ k) := fun j h1 h2 => by
    by_cases c : j + 1 = p
    · rw [c, Nat.mod_self]; omega
    · rw [Nat.mod_eq_of_lt (by omega)]; omega
  have b4 : edgeV R (turnV V i k) p k = R (V i).toNat (V ((k + 1) % p)).toNat := by
    unfold edgeV
    rw [turnV_in (by omega) (by omega), show i + k - k = i by omega, turnV_out (hmod k (by omega) hp)]
  have b5 : gsT (fun j => edgeV R (turnV V i k) p (k + 1 + j)) (p - (k + 1)) = gsT (fun j => edgeV R V p (k + 1 + j)) (p - (k + 1)) := gsT_congr fun j hj => by
    show edgeV R (turnV V i k) p (k + 1 + j) = edgeV R V p (k + 1 + j)
    unfold edgeV
    rw [turnV_out (by omega), turnV_out (hmod (k + 1 + j) (by omega) (by omega))]
  have b6 : gsT (fun j => edgeV R (turnV V i k) p (i + j)) (k - i) = gsT (fun j => edgeV R V p (i + j)) (k - i) := by
    rw [← gsT_rev (fun j => edgeV R V p (i + j)) (k - i)]
    refine gsT_congr fun j hj => ?_
    show edgeV R (turnV V i k) p (i + j) = edgeV R V p (i + (k - i - 1 - j))
    unfold edgeV
    rw [turnV_in (by omega) (by omega), Nat.mod_eq_of_lt (show i + j + 1 < p by omega), turnV_in (by omega) (by omega), Nat.mod_eq_of_lt (show i + (k - i - 1 - j) + 1 < p by omega)]
    rw [show i + k - (i + j) = k - j by omega, show i + k - (i + j + 1) = k - j - 1 by omega, show i + (k - i - 1 - j) = k - j - 1 by omega, show k - j - 1 + 1 = k - j by omega]
    have v1 := hV (k - j) (by omega)
    have v2 := hV (k - j - 1) (by omega)
    exact hS _ _ (by omega) (by omega)
  have b7 : edgeV R V p k = R (V k).toNat (V ((k + 1) % p)).toNat := rfl
  rw [b1, b2, b3, b4, b5, b6, b7]
  omega
def shB (R : Nat → Nat → Int) (V : Nat → Int) (p i k : Nat) : Bool := decide (R (V (i - 1)).toNat (V k).toNat + R (V i).toNat (V ((k + 1) % p)).toNat < R (V (i - 1)).toNat (V i).toNat + R (V k).toNat (V ((k + 1) % p)).toNat)
theorem shB_len {n p i k : Nat} {R : Nat → Nat → Int} {V : Nat → Int} (hS : SymR n R) (hV : ∀ j, j < p → 0 ≤ V j ∧ V j < (n : Int)) (hi : 1 ≤ i) (hk : i < k) (hp : k < p) : shB R V p i k = decide (lngW R (turnV V i k) p < lngW R V p) := by
  have h := turn_len hS hV hi hk hp
  unfold shB
  congr 1
  exact propext ⟨fun g => by omega, fun g => by omega⟩

set_option maxHeartbeats 8000000 in
set_option maxRecDepth 100000 in
set_option linter.unusedSimpArgs false in
theorem alike_any (a : Option Addr) (n c : Nat) (H : Nat → Option Addr × Nat × Nat) (R : Nat → Nat → Int) (w : World) (hr : RRow w a n c H R) (hG : GMap n R (lnH H)) :
    Calls Tryd.prog 76 #[.slice a n c] w fun e w' => e = .returned (.bool (symB n R)) ∧ w' = w := by
  have HR := hide hr
  have HG := hide hG
  have q1 := hr.1
  have q2 := hr.2.1
  obtain ⟨B, hB⟩ : ∃ B, symB n R = B := ⟨_, rfl⟩
  have HB := hide hB
  rw [hB]
  clear hr hG hB
  go_enter Tryd.func76, Tryd.ntmps76
  go_wp2_with fail
  go_loopw [9, 3, 4, 16, 5, 6] (fun vi _ _ _ _ _ wr => ∃ i : Nat, vi = .int .i64 (i : Int) ∧ i ≤ n ∧ (∀ x y, x < i → y < n → R x y = R y x) ∧ wr = w) (fun vi _ _ _ _ _ _ => n - (intOf vi).toNat)
  case atStart => exact ⟨0, rfl, Nat.zero_le _, fun x y h => absurd h (Nat.not_lt_zero _), rfl⟩
  case round =>
    obtain ⟨i, rfl, hi, hz, rfl⟩ := hrel
    by_cases hlt : i < n
    · obtain ⟨b, o, b2, o2, c2, rfl, c0, _, _, _, q3⟩ := (unhide HR).at (unhide HG) hlt hlt
      have hcol := fun j hj => (unhide HR).at (unhide HG) (i := i) (j := j) hlt hj
      have HZ := hide hz
      have e1 : (0 : Int) ≤ (i : Int) := by omega
      have e2 : (i : Int) < (n : Int) := by omega
      have e6 : IntKind.i64.wrap ((i : Int) + 1) = ((i + 1 : Nat) : Int) := by rw [IntKind.wrap_i64]; omega
      have HCO : Hid (∀ j, j < n → wr.cell? ⟨b2, o2 + j, none⟩ = some (.int .i64 (R i j))) := fun j hj => by
        obtain ⟨b', o', b2', o2', c2', e, d0, d1, _, _, _⟩ := hcol j hj
        injection e with e; injection e with e3 e4
        subst e3 e4
        rw [c0] at d0
        injection d0 with d0; injection d0 with d0
        injection d0 with d0; injection d0 with d3 d4
        rw [d3, d4]; exact d1
      clear hz hcol
      go_wp2_with fail
      go_loopw [16, 5, 6] (fun vj _ _ wv => ∃ j : Nat, vj = .int .i64 (j : Int) ∧ j ≤ n ∧ (∀ y, y < j → R i y = R y i) ∧ wv = wr) (fun vj _ _ _ => n - (intOf vj).toNat)
      case atStart => exact ⟨0, rfl, Nat.zero_le _, fun y hy => absurd hy (Nat.not_lt_zero _), by first | rfl | trivial⟩
      case round =>
        obtain ⟨j, rfl, hj, hjn, hwv⟩ := hrel
        subst hwv
        by_cases hjl : j < n
        · have k0 := unhide HCO j hjl
          obtain ⟨b', o', b3, o3, c3, e, k1, k2, _, _, q4⟩ := (unhide HR).at (unhide HG) (i := j) (j := i) hjl hlt
          injection e with e; injection e with e3 e4
          subst e3 e4
          obtain ⟨x, hx⟩ : ∃ x, R i j = x := ⟨_, rfl⟩
          obtain ⟨y, hy⟩ : ∃ y, R j i = y := ⟨_, rfl⟩
          rw [hx] at k0
          rw [hy] at k2
          have f1 : (0 : Int) ≤ (j : Int) := by omega
          have f2 : (j : Int) < (n : Int) := by omega
          have f6 : IntKind.i64.wrap ((j : Int) + 1) = ((j + 1 : Nat) : Int) := by rw [IntKind.wrap_i64]; omega
          by_cases hxy : x = y
          · have g0 : (x != y) = false := by simpa using hxy
            have HJ : Hid (∀ q, q < j + 1 → R i q = R q i) := fun q hq => by
              by_cases c : q = j
              · rw [c, hx, hy, hxy]
              · exact hjn q (by omega)
            clear hjn hx hy hxy
            go_wp2
            exact ⟨⟨j + 1, rfl, hjl, unhide HJ, by first | rfl | trivial⟩, by simp [intOf]; omega⟩
          · have g0 : (x != y) = true := by simpa using hxy
            obtain rfl : B = false := by
              rw [← unhide HB]
              exact symB_false fun h => hxy (by rw [← hx, ← hy]; exact h i j hlt hjl)
            clear hjn hx hy hxy
            go_wp2
            go_ret
            exact ⟨rfl, rfl⟩
        · obtain rfl : j = n := by omega
          have f2 : ¬ (j : Int) < (j : Int) := by omega
          have HJ : Hid (∀ x y, x < i + 1 → y < j → R x y = R y x) := fun x y h1 h2 => by
            by_cases c : x = i
            · rw [c]; exact hjn y h2
            · exact unhide HZ x y (by omega) h2
          clear hjn
          go_wp2
          exact ⟨⟨i + 1, rfl, hlt, unhide HJ, by first | rfl | trivial⟩, by simp [intOf]; omega⟩
    · obtain rfl : i = n := by omega
      have e2 : ¬ (i : Int) < (i : Int) := by omega
      obtain rfl : B = true := by
        rw [← unhide HB]
        exact symB_true.2 fun x y h1 h2 => hz x y h1 h2
      clear hz HR HG
      go_wp2
      go_ret
      exact ⟨rfl, rfl⟩
set_option maxHeartbeats 8000000 in
set_option maxRecDepth 100000 in
set_option linter.unusedSimpArgs false in
theorem shortens_any (a : Option Addr) (n c : Nat) (H : Nat → Option Addr × Nat × Nat) (R : Nat → Nat → Int) (va : Option Addr) (p vc : Nat) (V : Nat → Int) (i k : Nat) (w : World) (hr : RRow w a n c H R) (hv : IRow w va p vc V) (hG : GMap n R (lnH H)) (hV : ∀ j, j < p → 0 ≤ V j ∧ V j < (n : Int)) (hi : 1 ≤ i) (hik : i < k) (hp : k < p) (hp9 : p ≤ 100) :
    Calls Tryd.prog 77 #[.slice a n c, .slice va p vc, .int .i64 (i : Int), .int .i64 (k : Int)] w fun e w' => e = .returned (.bool (shB R V p i k)) ∧ Below w.heap.size w w' := by
  have q1 := hv.1
  have q2 := hv.2.1
  obtain ⟨b, o, rfl, hbl, hc⟩ := hv.2.2 (by omega)
  have hqp : (k + 1) % p < p := Nat.mod_lt _ (by omega)
  have tm : ((k : Int) + 1).tmod (p : Int) = (((k + 1) % p : Nat) : Int) := by rw [Int.tmod_eq_emod_of_nonneg (by omega)]; rfl
  obtain ⟨SB, hSB⟩ : ∃ S, shB R V p i k = S := ⟨_, rfl⟩
  have hB : SB = true ↔ R (V (i - 1)).toNat (V k).toNat + R (V i).toNat (V ((k + 1) % p)).toNat < R (V (i - 1)).toNat (V i).toNat + R (V k).toNat (V ((k + 1) % p)).toNat := by rw [← hSB]; exact decide_eq_true_iff
  rw [hSB]
  obtain ⟨q, hq⟩ : ∃ q, (k + 1) % p = q := ⟨_, rfl⟩
  rw [hq] at hqp tm hB
  have e1 : IntKind.i64.wrap ((i : Int) - 1) = ((i - 1 : Nat) : Int) := by rw [IntKind.wrap_i64]; omega
  obtain ⟨h, hh⟩ : ∃ h, i - 1 = h := ⟨_, rfl⟩
  rw [hh] at e1 hB
  have hhp : h < p := by omega
  have cA := hc h hhp
  have cK := hc k hp
  have cI := hc i (by omega)
  have cQ := hc q hqp
  have vA := hV h hhp
  have vK := hV k hp
  have vI := hV i (by omega)
  have vQ := hV q hqp
  obtain ⟨A, hA⟩ : ∃ x : Nat, V h = (x : Int) := ⟨(V h).toNat, by omega⟩
  obtain ⟨K, hK⟩ : ∃ x : Nat, V k = (x : Int) := ⟨(V k).toNat, by omega⟩
  obtain ⟨I, hI⟩ : ∃ x : Nat, V i = (x : Int) := ⟨(V i).toNat, by omega⟩
  obtain ⟨Q, hQ⟩ : ∃ x : Nat, V q = (x : Int) := ⟨(V q).toNat, by omega⟩
  rw [hA] at cA vA hB
  rw [hK] at cK vK hB
  rw [hI] at cI vI hB
  rw [hQ] at cQ vQ hB
  simp only [Int.toNat_natCast] at hB
  have A1 : A < n := by omega
  have K1 : K < n := by omega
  have I1 : I < n := by omega
  have Q1 : Q < n := by omega
  have dAK := hG.num A K A1 K1
  have dIQ := hG.num I Q I1 Q1
  have dAI := hG.num A I A1 I1
  have dKQ := hG.num K Q K1 Q1
  have qr := hr.1
  obtain ⟨b1, o1, b2, o2, c2, rfl, rA, rAK, _, _, z1⟩ := hr.at hG A1 K1
  obtain ⟨b1', o1', b2', o2', c2', e, rA', rAI, _, _, _⟩ := hr.at hG A1 I1
  injection e with e; injection e with e3 e4
  subst e3 e4
  rw [rA] at rA'
  injection rA' with d0; injection d0 with d0
  injection d0 with d0; injection d0 with d3 d4
  subst d3 d4
  obtain ⟨b1', o1', b3, o3, c3, e, rI, rIQ, _, _, z2⟩ := hr.at hG I1 Q1
  injection e with e; injection e with e3 e4
  subst e3 e4
  obtain ⟨b1', o1', b4, o4, c4, e, rK, rKQ, _, _, z3⟩ := hr.at hG K1 Q1
  injection e with e; injection e with e3 e4
  subst e3 e4
  obtain ⟨x1, hx1⟩ : ∃ x, R A K = x := ⟨_, rfl⟩
  obtain ⟨x2, hx2⟩ : ∃ x, R I Q = x := ⟨_, rfl⟩
  obtain ⟨x3, hx3⟩ : ∃ x, R A I = x := ⟨_, rfl⟩
  obtain ⟨x4, hx4⟩ : ∃ x, R K Q = x := ⟨_, rfl⟩
  rw [hx1] at rAK dAK hB
  rw [hx2] at rIQ dIQ hB
  rw [hx3] at rAI dAI hB
  rw [hx4] at rKQ dKQ hB
  have s1 : IntKind.i64.wrap (x1 + x2) = x1 + x2 := by rw [IntKind.wrap_i64]; omega
  have s2 : IntKind.i64.wrap (x3 + x4) = x3 + x4 := by rw [IntKind.wrap_i64]; omega
  have e5 : IntKind.i64.wrap ((k : Int) + 1) = (k : Int) + 1 := by rw [IntKind.wrap_i64]; omega
  have g1 : IntKind.i64.wrap (q : Int) = (q : Int) := by rw [IntKind.wrap_i64]; omega
  have g2 : ¬ (p : Int) = 0 := by omega
  have g3 : ((p : Int) == 0) = false := by simp; omega
  have i1 : (0 : Int) ≤ (h : Int) := by omega
  have i2 : (h : Int) < (p : Int) := by omega
  have i3 : (0 : Int) ≤ (q : Int) := by omega
  have i4 : (q : Int) < (p : Int) := by omega
  have i5 : (0 : Int) ≤ (k : Int) := by omega
  have i6 : (k : Int) < (p : Int) := by omega
  have i7 : (0 : Int) ≤ (i : Int) := by omega
  have i8 : (i : Int) < (p : Int) := by omega
  have j1 : (0 : Int) ≤ (A : Int) := by omega
  have j2 : (A : Int) < (n : Int) := by omega
  have j3 : (0 : Int) ≤ (K : Int) := by omega
  have j4 : (K : Int) < (n : Int) := by omega
  have j5 : (0 : Int) ≤ (I : Int) := by omega
  have j6 : (I : Int) < (n : Int) := by omega
  have j7 : (0 : Int) ≤ (Q : Int) := by omega
  have j8 : (Q : Int) < (n : Int) := by omega
  clear hr hv hG hV hc hq hh hA hK hI hQ vA vK vI vQ dAK dIQ dAI dKQ hx1 hx2 hx3 hx4 hik hp hi hp9 hbl A1 K1 I1 Q1 hhp hqp
  by_cases gl : x1 + x2 < x3 + x4
  · obtain rfl : SB = true := hB.2 gl
    clear hB hSB
    go_enter Tryd.func77, Tryd.ntmps77
    go_wp2_with fail
    go_quiet (fail)
    go_wp2_with fail
    go_quiet (fail)
    go_wp2
    go_ret
    exact ⟨rfl, ⟨rfl, rfl, rfl, Nat.le_refl _, fun _ _ => rfl⟩⟩
  · obtain rfl : SB = false := by
      cases SB with
      | false => rfl
      | true => exact absurd (hB.1 rfl) gl
    clear hB hSB
    go_enter Tryd.func77, Tryd.ntmps77
    go_wp2_with fail
    go_quiet (fail)
    go_wp2_with fail
    go_quiet (fail)
    go_wp2
    go_ret
    have gd : decide (x1 + x2 < x3 + x4) = false := decide_eq_false (by omega)
    exact ⟨by show Ending.returned (.bool (decide (x1 + x2 < x3 + x4))) = _; rw [gd], ⟨rfl, rfl, rfl, Nat.le_refl _, fun _ _ => rfl⟩⟩
end Go.Proofs.YtcmddkekidgkoaaDoor
