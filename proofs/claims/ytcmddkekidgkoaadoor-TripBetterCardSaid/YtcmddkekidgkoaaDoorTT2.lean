/- Round ways: how long one is. -/
import Derived.Test.YtcmddkekidgkoaaDoorTT1
namespace Go.Proofs.YtcmddkekidgkoaaDoor
open Go.RowKit Go.Sort Go.Shelf

/-- A block of one cell. -/
def Box (W : World) (p : Nat) (T : TypeId) (v : Value) : Prop := W.heap[p]? = some (.cells #[v] T)
theorem Box.lt {W : World} {p : Nat} {T : TypeId} {v : Value} (h : Box W p T v) : p < W.heap.size := (Array.getElem?_eq_some_iff.1 h).1
theorem Box.cell {W : World} {p : Nat} {T : TypeId} {v : Value} (h : Box W p T v) : W.cell? ⟨p, 0, none⟩ = some v := by
  unfold Box at h
  simp [World.cell?, h]
theorem Box.keep {W W' : World} {p : Nat} {T : TypeId} {v : Value} (h : Box W p T v) (hb : Below W.heap.size W W') : Box W' p T v := by
  unfold Box; rw [hb.block p h.lt]; exact h
theorem Box.new (W : World) (T : TypeId) (v : Value) : Box (W.alloc (.cells #[v] T)) W.heap.size T v := heap_alloc_new W _

def pvk (p k : Nat) : Nat := if k = 0 then p - 1 else k - 1
/-- So far from each to the next, from the last to the first ahead. -/
def plW (R : Nat → Nat → Int) (V : Nat → Int) (p : Nat) : Nat → Int
  | 0 => 0
  | k + 1 => plW R V p k + R (V (pvk p k)).toNat (V k).toNat
/-- So far from each to the next, from the last to the first at the end. -/
def rlW (R : Nat → Nat → Int) (V : Nat → Int) (p : Nat) : Nat → Int
  | 0 => 0
  | k + 1 => rlW R V p k + R (V k).toNat (V ((k + 1) % p)).toNat
def lngW (R : Nat → Nat → Int) (V : Nat → Int) (p : Nat) : Int := if p < 2 then 0 else plW R V p p
theorem pl_rl (R : Nat → Nat → Int) (V : Nat → Int) {p : Nat} : ∀ k, k < p → plW R V p (k + 1) = R (V (p - 1)).toNat (V 0).toNat + rlW R V p k
  | 0, _ => by show (0 : Int) + R (V (pvk p 0)).toNat (V 0).toNat = _ + 0; rw [show pvk p 0 = p - 1 from if_pos rfl]; omega
  | k + 1, h => by
    have ih := pl_rl R V (p := p) k (by omega)
    show plW R V p (k + 1) + R (V (pvk p (k + 1))).toNat (V (k + 1)).toNat = _ + (rlW R V p k + R (V k).toNat (V ((k + 1) % p)).toNat)
    have hp : pvk p (k + 1) = k := by unfold pvk; rw [if_neg (Nat.succ_ne_zero k)]; rfl
    rw [ih, Nat.mod_eq_of_lt h, hp]
    omega
theorem lng_rl (R : Nat → Nat → Int) (V : Nat → Int) {p : Nat} (h : 1 < p) : rlW R V p p = lngW R V p := by
  unfold lngW
  rw [if_neg (by omega)]
  obtain ⟨q, rfl⟩ : ∃ q, p = q + 1 := ⟨p - 1, by omega⟩
  rw [pl_rl R V q (by omega)]
  show rlW R V (q + 1) q + R (V q).toNat (V ((q + 1) % (q + 1))).toNat = _
  rw [Nat.mod_self, show q + 1 - 1 = q by omega]
  omega
theorem plW_bd {n p : Nat} {R : Nat → Nat → Int} {ln : Nat → Nat} {V : Nat → Int} (G : GMap n R ln) (hV : ∀ j, j < p → 0 ≤ V j ∧ V j < (n : Int)) : ∀ k, k ≤ p → 0 ≤ plW R V p k ∧ plW R V p k ≤ 1000000000 * k
  | 0, _ => ⟨Int.le_refl _, Int.le_refl _⟩
  | k + 1, h => by
    have ih := plW_bd G hV k (by omega)
    have v1 := hV k (by omega)
    have v2 := hV (pvk p k) (by unfold pvk; split <;> omega)
    have := G.num (V (pvk p k)).toNat (V k).toNat (by omega) (by omega)
    show 0 ≤ plW R V p k + _ ∧ plW R V p k + _ ≤ _
    omega
theorem rlW_bd {n p : Nat} {R : Nat → Nat → Int} {ln : Nat → Nat} {V : Nat → Int} (G : GMap n R ln) (hV : ∀ j, j < p → 0 ≤ V j ∧ V j < (n : Int)) : ∀ k, k ≤ p → 0 ≤ rlW R V p k ∧ rlW R V p k ≤ 1000000000 * k
  | 0, _ => ⟨Int.le_refl _, Int.le_refl _⟩
  | k + 1, h => by
    have ih := rlW_bd G hV k (by omega)
    have v1 := hV k (by omega)
    have v2 := hV ((k + 1) % p) (Nat.mod_lt _ (by omega))
    have := G.num (V k).toNat (V ((k + 1) % p)).toNat (by omega) (by omega)
    show 0 ≤ rlW R V p k + _ ∧ rlW R V p k + _ ≤ _
    omega
/-- A number of a map's row. -/
theorem RRow.at {w : World} {a : Option Addr} {n c : Nat} {H : Nat → Option Addr × Nat × Nat} {R : Nat → Nat → Int} (h : RRow w a n c H R) (G : GMap n R (lnH H)) {i j : Nat} (hi : i < n) (hj : j < n) :
    ∃ b o b2 o2 c2, a = some ⟨b, o, none⟩ ∧ w.cell? ⟨b, o + i, none⟩ = some (.slice (some ⟨b2, o2, none⟩) n c2) ∧ w.cell? ⟨b2, o2 + j, none⟩ = some (.int .i64 (R i j)) ∧ b < w.heap.size ∧ b2 < w.heap.size ∧ n ≤ c2 := by
  obtain ⟨_, _, h3, h4⟩ := h
  obtain ⟨b, o, e, hb, hc⟩ := h4 (by omega)
  have hl : (H i).2.1 = n := G.len i hi
  have hr := h3 i hi
  rw [hl] at hr
  obtain ⟨q1, q2, q3⟩ := hr
  obtain ⟨b2, o2, e2, hb2, hc2⟩ := q3 (by omega)
  have c0 := hc i hi
  rw [hl, e2] at c0
  exact ⟨b, o, b2, o2, (H i).2.2, e, c0, hc2 j hj, hb, hb2, q1⟩

set_option maxHeartbeats 8000000 in
set_option maxRecDepth 100000 in
set_option linter.unusedSimpArgs false in
theorem long_any (a : Option Addr) (n c : Nat) (H : Nat → Option Addr × Nat × Nat) (R : Nat → Nat → Int) (va : Option Addr) (p vc : Nat) (V : Nat → Int) (w : World) (hr : RRow w a n c H R) (hv : IRow w va p vc V) (hG : GMap n R (lnH H)) (hV : ∀ j, j < p → 0 ≤ V j ∧ V j < (n : Int)) (hp : p ≤ 100) :
    Calls Tryd.prog 64 #[.slice a n c, .slice va p vc] w fun e w' => e = .returned (.int .i64 (lngW R V p)) ∧ w' = w := by
  have HR := hide hr
  have HV := hide hv
  have HG := hide hG
  have HN := hide hV
  have q1 := hv.1
  have q2 := hv.2.1
  by_cases h2 : p < 2
  · rw [show lngW R V p = 0 from if_pos h2]
    have e0 : (p : Int) < 2 := by omega
    clear hr hv hG hV HR HV HG HN h2
    go_enter Tryd.func64, Tryd.ntmps64
    go_wp2
    go_ret
    exact ⟨rfl, rfl⟩
  rw [show lngW R V p = plW R V p p from if_neg h2]
  obtain ⟨b, o, rfl, hbl, hc⟩ := hv.2.2 (by omega)
  have HC := hide hc
  have c0 := hc (p - 1) (by omega)
  have e0 : ¬ (p : Int) < 2 := by omega
  have e1 : IntKind.i64.wrap ((p : Int) - 1) = ((p - 1 : Nat) : Int) := by rw [IntKind.wrap_i64]; omega
  have e2 : (0 : Int) ≤ ((p - 1 : Nat) : Int) := by omega
  have e3 : ((p - 1 : Nat) : Int) < (p : Int) := by omega
  obtain ⟨S, hS⟩ : ∃ S, plW R V p = S := ⟨_, rfl⟩
  have HS : Hid (∀ k, S (k + 1) = S k + R (V (pvk p k)).toNat (V k).toNat) := fun k => by rw [← hS]; rfl
  have HSB : Hid (∀ k, k ≤ p → 0 ≤ S k ∧ S k ≤ 1000000000 * k) := by rw [← hS]; exact plW_bd hG hV
  have HS0 : Hid (S 0 = 0) := by rw [← hS]; rfl
  rw [hS]
  obtain ⟨lst, hlst⟩ : ∃ q, p - 1 = q := ⟨_, rfl⟩
  have HL0 := hide hlst
  rw [hlst] at c0 e1 e2 e3
  clear hr hv hG hV hc hS hlst
  go_enter Tryd.func64, Tryd.ntmps64
  go_wp2_with fail
  go_loopw [20, 8, 5, 6] (fun vi _ vs vt wr => ∃ i : Nat, vi = .int .i64 (i : Int) ∧ i ≤ p ∧ vs = .int .i64 (S i) ∧ vt = .int .i64 (V (pvk p i)) ∧ wr = w) (fun vi _ _ _ _ => p - (intOf vi).toNat)
  case atStart => exact ⟨0, rfl, Nat.zero_le _, by rw [unhide HS0], by rw [show pvk p 0 = p - 1 from if_pos rfl, unhide HL0], rfl⟩
  case round =>
    obtain ⟨i, rfl, hi, rfl, rfl, rfl⟩ := hrel
    by_cases hlt : i < p
    · have k0 := unhide HC i hlt
      have v1 := unhide HN i hlt
      have v2 := unhide HN (pvk p i) (by unfold pvk; split <;> omega)
      obtain ⟨x, hx⟩ : ∃ x : Nat, V i = (x : Int) := ⟨(V i).toNat, by omega⟩
      obtain ⟨y, hy⟩ : ∃ y : Nat, V (pvk p i) = (y : Int) := ⟨(V (pvk p i)).toNat, by omega⟩
      have s1 := unhide HS i
      have s2 := unhide HSB i hi
      rw [hx] at k0 v1 s1
      rw [hy] at v2 s1 ⊢
      simp only [Int.toNat_natCast] at s1
      have hxn : x < n := by omega
      have hyn : y < n := by omega
      obtain ⟨b1, o1, b2, o2, c2, rfl, k1, k2, _, _, q3⟩ := (unhide HR).at (unhide HG) hyn hxn
      have hd := (unhide HG).num y x hyn hxn
      obtain ⟨d, hd0⟩ : ∃ d, R y x = d := ⟨_, rfl⟩
      rw [hd0] at k2 hd s1
      obtain ⟨s, hs⟩ : ∃ s, S i = s := ⟨_, rfl⟩
      rw [hs] at s1 s2 ⊢
      have f1 : (0 : Int) ≤ (i : Int) := by omega
      have f2 : (i : Int) < (p : Int) := by omega
      have f3 : IntKind.i64.wrap ((i : Int) + 1) = ((i + 1 : Nat) : Int) := by rw [IntKind.wrap_i64]; omega
      have f4 : (0 : Int) ≤ (x : Int) := by omega
      have f5 : (x : Int) < (n : Int) := by omega
      have f6 : (0 : Int) ≤ (y : Int) := by omega
      have f7 : (y : Int) < (n : Int) := by omega
      have f8 : IntKind.i64.wrap (s + d) = s + d := by rw [IntKind.wrap_i64]; omega
      have HX := hide hx
      have HS1 := hide s1
      clear hx hy s1 s2 hd hd0 hs HR v1 v2
      go_wp2
      exact ⟨⟨i + 1, rfl, hlt, by rw [unhide HS1], by rw [show pvk p (i + 1) = i from if_neg (Nat.succ_ne_zero i), unhide HX], by first | rfl | trivial⟩, by simp [intOf]; omega⟩
    · obtain rfl : i = p := by omega
      have f2 : ¬ (i : Int) < (i : Int) := by omega
      clear HR HG HN
      go_wp2
      go_ret
      exact ⟨rfl, rfl⟩
set_option maxHeartbeats 8000000 in
set_option maxRecDepth 100000 in
set_option linter.unusedSimpArgs false in
theorem rLong_any (a : Option Addr) (n c : Nat) (H : Nat → Option Addr × Nat × Nat) (R : Nat → Nat → Int) (va : Option Addr) (p vc : Nat) (V : Nat → Int) (w : World) (hr : RRow w a n c H R) (hv : IRow w va p vc V) (hG : GMap n R (lnH H)) (hV : ∀ j, j < p → 0 ≤ V j ∧ V j < (n : Int)) (hp : p ≤ 100) :
    Calls Tryd.prog 31 #[.slice a n c, .slice va p vc] w fun e w' => e = .returned (.int .i64 (lngW R V p)) ∧ Below w.heap.size w w' := by
  have HR := hide hr
  have HV := hide hv
  have HG := hide hG
  have HN := hide hV
  have q1 := hv.1
  have q2 := hv.2.1
  by_cases h2 : p < 2
  · rw [show lngW R V p = 0 from if_pos h2]
    have e0 : ¬ (1 : Int) < (p : Int) := by omega
    clear hr hv hG hV HR HV HG HN
    go_enter Tryd.func31, Tryd.ntmps31
    go_wp2_with fail
    go_loopw [9, 5, 6] (fun vi vs _ wr => ∃ i : Nat, vi = .int .i64 (i : Int) ∧ i ≤ p ∧ vs = .int .i64 0 ∧ wr = w) (fun vi _ _ _ => p - (intOf vi).toNat)
    case atStart => exact ⟨0, rfl, Nat.zero_le _, rfl, rfl⟩
    case round =>
      obtain ⟨i, rfl, hi, rfl, rfl⟩ := hrel
      by_cases hlt : i < p
      · have f2 : (i : Int) < (p : Int) := by omega
        have f3 : IntKind.i64.wrap ((i : Int) + 1) = ((i + 1 : Nat) : Int) := by rw [IntKind.wrap_i64]; omega
        go_wp2
        exact ⟨⟨i + 1, rfl, hlt, rfl, by first | rfl | trivial⟩, by simp [intOf]; omega⟩
      · obtain rfl : i = p := by omega
        have f2 : ¬ (i : Int) < (i : Int) := by omega
        go_wp2
        go_ret
        exact ⟨rfl, Below.refl _ _⟩
  rw [← lng_rl R V (by omega)]
  have e0 : (1 : Int) < (p : Int) := by omega
  obtain ⟨S, hS⟩ : ∃ S, rlW R V p = S := ⟨_, rfl⟩
  have HS : Hid (∀ k, S (k + 1) = S k + R (V k).toNat (V ((k + 1) % p)).toNat) := fun k => by rw [← hS]; rfl
  have HSB : Hid (∀ k, k ≤ p → 0 ≤ S k ∧ S k ≤ 1000000000 * k) := by rw [← hS]; exact rlW_bd hG hV
  have HS0 : Hid (S 0 = 0) := by rw [← hS]; rfl
  rw [hS]
  clear hr hv hG hV hS
  go_enter Tryd.func31, Tryd.ntmps31
  go_wp2_with fail
  go_loopw [9, 5, 6] (fun vi vs _ wr => ∃ i : Nat, vi = .int .i64 (i : Int) ∧ i ≤ p ∧ vs = .int .i64 (S i) ∧ Below w.heap.size w wr) (fun vi _ _ _ => p - (intOf vi).toNat)
  case atStart => exact ⟨0, rfl, Nat.zero_le _, by rw [unhide HS0], Below.refl _ _⟩
  case round =>
    obtain ⟨i, rfl, hi, rfl, hb⟩ := hrel
    by_cases hlt : i < p
    · obtain ⟨b, o, rfl, hbl, hc⟩ := ((unhide HV).below hb).2.2 (by omega)
      have hqp : (i + 1) % p < p := Nat.mod_lt _ (by omega)
      have tm : ((i : Int) + 1).tmod (p : Int) = (((i + 1) % p : Nat) : Int) := by rw [Int.tmod_eq_emod_of_nonneg (by omega)]; rfl
      have s1 := unhide HS i
      obtain ⟨q, hq⟩ : ∃ q, (i + 1) % p = q := ⟨_, rfl⟩
      rw [hq] at hqp tm s1
      have k0 := hc i hlt
      have k9 := hc q hqp
      have v1 := unhide HN i hlt
      have v2 := unhide HN q hqp
      obtain ⟨y, hy⟩ : ∃ y : Nat, V i = (y : Int) := ⟨(V i).toNat, by omega⟩
      obtain ⟨x, hx⟩ : ∃ x : Nat, V q = (x : Int) := ⟨(V q).toNat, by omega⟩
      have s2 := unhide HSB i hi
      rw [hy] at k0 v1 s1
      rw [hx] at k9 v2 s1
      simp only [Int.toNat_natCast] at s1
      have hxn : x < n := by omega
      have hyn : y < n := by omega
      obtain ⟨b1, o1, b2, o2, c2, rfl, k1, k2, _, _, q3⟩ := ((unhide HR).below hb).at (unhide HG) hyn hxn
      have hd := (unhide HG).num y x hyn hxn
      obtain ⟨d, hd0⟩ : ∃ d, R y x = d := ⟨_, rfl⟩
      rw [hd0] at k2 hd s1
      obtain ⟨s, hs⟩ : ∃ s, S i = s := ⟨_, rfl⟩
      rw [hs] at s1 s2 ⊢
      have HB := hide hb
      have f1 : (0 : Int) ≤ (i : Int) := by omega
      have f2 : (i : Int) < (p : Int) := by omega
      have f3 : IntKind.i64.wrap ((i : Int) + 1) = ((i + 1 : Nat) : Int) := by rw [IntKind.wrap_i64]; omega
      have f4 : (0 : Int) ≤ (x : Int) := by omega
      have f5 : (x : Int) < (n : Int) := by omega
      have f6 : (0 : Int) ≤ (y : Int) := by omega
      have f7 : (y : Int) < (n : Int) := by omega
      have f8 : IntKind.i64.wrap (s + d) = s + d := by rw [IntKind.wrap_i64]; omega
      have f9 : (0 : Int) ≤ (q : Int) := by omega
      have g1 : (q : Int) < (p : Int) := by omega
      have g2 : IntKind.i64.wrap (q : Int) = (q : Int) := by rw [IntKind.wrap_i64]; omega
      have g3 : ((p : Int) == 0) = false := by simp; omega
      have g4 : ¬ (p : Int) = 0 := by omega
      have HS1 := hide s1
      clear hx hy s1 s2 hd hd0 hs HR v1 v2 hq hqp hb hc HV
      go_wp2_with fail
      go_quiet (fail)
      go_wp2
      exact ⟨⟨i + 1, rfl, hlt, by rw [unhide HS1], ⟨(unhide HB).os, (unhide HB).tape, (unhide HB).output, (unhide HB).size, (unhide HB).block⟩⟩, by simp [intOf]; omega⟩
    · obtain rfl : i = p := by omega
      have f2 : ¬ (i : Int) < (i : Int) := by omega
      have HB := hide hb
      clear HR HG HN hb
      go_wp2
      go_ret
      exact ⟨rfl, unhide HB⟩

def wbad (N : Nat) (x : Int) : Bool := decide (x < 0 ∨ (N : Int) ≤ x)
set_option maxHeartbeats 8000000 in
set_option maxRecDepth 100000 in
set_option linter.unusedSimpArgs false in
theorem lwrong_any (x : Int) (N p : Nat) (a0 : Option Addr) (c0 : Nat) (w : World) (h : Box w p 56 (.slice a0 N c0)) (hN : N ≤ 9) :
    Calls Tryd.prog 63 #[.int .i64 x, .pointer (some ⟨p, 0, none⟩)] w fun e w' => e = .returned (.bool (wbad N x)) ∧ w' = w := by
  have C := hide (rwithin_any x ((N : Int) - 1) w)
  have cl := h.cell
  have e1 : IntKind.i64.wrap ((N : Int) - 1) = (N : Int) - 1 := by rw [IntKind.wrap_i64]; omega
  by_cases g : 0 ≤ x ∧ x ≤ (N : Int) - 1
  · rw [show wbad N x = false from decide_eq_false (by omega)]
    rw [decide_eq_true g] at C
    clear g h
    go_enter Tryd.func63, Tryd.ntmps63
    go_wp2_with fail
    refine (unhide C).mono ?_
    rintro e_ w2 ⟨rfl, rfl⟩
    go_wp2
    go_ret
    exact ⟨rfl, rfl⟩
  · rw [show wbad N x = true from decide_eq_true (by omega)]
    rw [decide_eq_false g] at C
    clear g h
    go_enter Tryd.func63, Tryd.ntmps63
    go_wp2_with fail
    refine (unhide C).mono ?_
    rintro e_ w2 ⟨rfl, rfl⟩
    go_wp2
    go_ret
    exact ⟨rfl, rfl⟩

def lgwIx (N : Nat) ( f : Nat → Int) (n : Nat) (w : World) (e : Ending) (w' : World) : Prop := (∃ r : Int, e = .returned (.int .i64 r) ∧ decide (0 ≤ r) = (List.range n).any (fun j => wbad N (f j))) ∧ w' = w
theorem lgw_true {f : Nat → Int} {n j : Nat} {N : Nat} (hj : j < n) (h : wbad N (f j) = true) : (List.range n).any (fun j => wbad N (f j)) = true := List.any_eq_true.2 ⟨j, List.mem_range.2 hj, h⟩
theorem lgw_false {f : Nat → Int} {n : Nat} {N : Nat} (h : ∀ j, j < n → wbad N (f j) = false) : (List.range n).any (fun j => wbad N (f j)) = false := by
  cases hb : (List.range n).any (fun j => wbad N (f j)) with
  | false => rfl
  | true =>
    obtain ⟨i, h1, h2⟩ := List.any_eq_true.1 hb
    rw [h i (List.mem_range.1 h1)] at h2
    cases h2
set_option maxHeartbeats 4000000 in
theorem lgw_index (a : Option Addr) (n c : Nat) (f : Nat → Int) (N p : Nat) (a0 : Option Addr) (c0 : Nat) (w : World) (ha : IRow w a n c f) (hn : n ≤ 1000000) (hbx : Box w p 56 (.slice a0 N c0)) (hN : N ≤ 9) :
    Calls Tryd.prog 94 #[.slice a n c, .func (.func 63) #[] #[.pointer (some ⟨p, 0, none⟩)]] w (lgwIx N f n w) := by
  have HCL : Hid (∀ x : Int, Calls Tryd.prog 63 #[.int .i64 x, .pointer (some ⟨p, 0, none⟩)] w fun e w' => e = .returned (.bool (wbad N x)) ∧ w' = w) := fun x => lwrong_any x N p a0 c0 w hbx hN
  obtain ⟨h1, h2, h3⟩ := ha
  have H3 := hide h3
  clear h3
  go_enter Tryd.func94, Tryd.ntmps94
  go_wp2
  go_loopw [8] (fun vi wr => ∃ m : Nat, vi = .int .i64 (m : Int) ∧ m ≤ n ∧ (∀ j, j < m → wbad N (f j) = false) ∧ wr = w) (fun vi _ => n - (intOf vi).toNat)
  case atStart => exact ⟨0, rfl, Nat.zero_le _, fun j hj => absurd hj (Nat.not_lt_zero _), rfl⟩
  case round =>
    obtain ⟨m, rfl, hm, hj, rfl⟩ := hrel
    by_cases hlt : m < n
    · obtain ⟨b, o, rfl, hbl, hc⟩ := unhide H3 (by omega)
      have k0 := hc m hlt
      obtain ⟨x, hx⟩ : ∃ x, f m = x := ⟨_, rfl⟩
      rw [hx] at k0
      have e2 : (0 : Int) ≤ (m : Int) := by omega
      have e3 : (m : Int) < (n : Int) := by omega
      have HJ := hide hj
      have HX := hide hx
      have C := hide (unhide HCL x)
      clear hc H3 hj hx HCL
      cases hb : wbad N x with
      | true =>
        rw [hb] at C
        have HF : Hid ((List.range n).any (fun j => wbad N (f j)) = true) := lgw_true hlt (by rw [unhide HX]; exact hb)
        clear hb
        go_wp2_with fail
        refine (unhide C).mono ?_
        rintro e_ w2 ⟨rfl, rfl⟩
        go_wp2
        go_ret
        exact ⟨⟨_, rfl, by rw [unhide HF]; exact decide_eq_true (by omega)⟩, rfl⟩
      | false =>
        rw [hb] at C
        have HF : Hid (wbad N (f m) = false) := by show wbad N (f m) = false; rw [unhide HX]; exact hb
        clear hb
        go_wp2_with fail
        refine (unhide C).mono ?_
        rintro e_ w2 ⟨rfl, rfl⟩
        go_wp2
        refine ⟨⟨m + 1, by go_num, hlt, fun j hj => ?_, by first | exact rfl | trivial⟩, by simp [intOf]; omega⟩
        by_cases hjm : j = m
        · rw [hjm]; exact unhide HF
        · exact unhide HJ j (by omega)
    · obtain rfl : m = n := by omega
      have HF := hide (lgw_false hj)
      clear hj
      have e3 : ¬ (m : Int) < (m : Int) := by omega
      go_wp2
      go_ret
      exact ⟨⟨_, rfl, by rw [unhide HF]; exact decide_eq_false (by omega)⟩, rfl⟩
set_option maxHeartbeats 4000000 in
theorem lgw_contains (a : Option Addr) (n c : Nat) (f : Nat → Int) (N p : Nat) (a0 : Option Addr) (c0 : Nat) (w : World) (ha : IRow w a n c f) (hn : n ≤ 1000000) (hbx : Box w p 56 (.slice a0 N c0)) (hN : N ≤ 9) :
    Calls Tryd.prog 60 #[.slice a n c, .func (.func 63) #[] #[.pointer (some ⟨p, 0, none⟩)]] w fun e w' => e = .returned (.bool ((List.range n).any (fun j => wbad N (f j)))) ∧ w' = w := by
  have C := hide (lgw_index a n c f N p a0 c0 w ha hn hbx hN)
  have q1 := ha.1
  have q2 := ha.2.1
  obtain ⟨B, hB⟩ : ∃ B, (List.range n).any (fun j => wbad N (f j)) = B := ⟨_, rfl⟩
  have HB := hide hB
  rw [hB]
  clear ha hB
  go_enter Tryd.func60, Tryd.ntmps60
  go_wp2_with fail
  refine (unhide C).mono ?_
  rintro e_ w2 ⟨⟨r, rfl, hr⟩, rfl⟩
  by_cases h : 0 ≤ r
  · rw [decide_eq_true h] at hr
    obtain rfl : B = true := (unhide HB).symm.trans hr.symm
    clear hr
    go_wp2
    go_ret
    exact ⟨rfl, rfl⟩
  · rw [decide_eq_false h] at hr
    obtain rfl : B = false := (unhide HB).symm.trans hr.symm
    have h' : decide (0 ≤ r) = false := decide_eq_false h
    clear hr
    go_wp2
    go_ret
    exact ⟨rfl, rfl⟩

def wany (N : Nat) (V : Nat → Int) (p : Nat) : Bool := (List.range p).any (fun j => wbad N (V j))
def lgcode (n : Nat) (R : Nat → Nat → Int) (ln : Nat → Nat) (p : Nat) (V : Nat → Int) : Int := if mcode n R ln ≠ 0 then mcode n R ln else if 100 < p then 4 else if wany n V p then 2 else 0
theorem wany_false {N p : Nat} {V : Nat → Int} (h : wany N V p = false) : ∀ j, j < p → 0 ≤ V j ∧ V j < (N : Int) := fun j hj => by
  cases hb : wbad N (V j) with
  | true => rw [show wany N V p = true from List.any_eq_true.2 ⟨j, List.mem_range.2 hj, hb⟩] at h; cases h
  | false => have := of_decide_eq_false hb; omega
def LgE (w : World) (k x : Int) (e : Ending) (w' : World) : Prop := Below w.heap.size w w' ∧ ((k ≠ 0 ∧ e = .returned (.tuple #[.int .i64 0, .iface 25 (.int .i64 k)])) ∨ (k = 0 ∧ e = .returned (.tuple #[.int .i64 x, .nilIface])))
set_option maxHeartbeats 8000000 in
set_option maxRecDepth 100000 in
set_option linter.unusedSimpArgs false in
theorem Long_any (a : Option Addr) (n c : Nat) (H : Nat → Option Addr × Nat × Nat) (R : Nat → Nat → Int) (va : Option Addr) (p vc : Nat) (V : Nat → Int) (w : World) (hr : RRow w a n c H R) (hv : IRow w va p vc V) :
    Calls Tryd.prog 32 #[.slice a n c, .slice va p vc] w (LgE w (lgcode n R (lnH H) p V) (lngW R V p)) := by
  obtain ⟨w1, hw1⟩ : ∃ W, w.alloc (.cells #[.slice a n c] 56) = W := ⟨_, rfl⟩
  have b1 : Below w.heap.size w w1 := by rw [← hw1]; exact alloc_below _ _
  have xl1 : Box w1 w.heap.size 56 (.slice a n c) := by rw [← hw1]; exact Box.new _ _ _
  obtain ⟨pl, hpl⟩ : ∃ p, w.heap.size = p := ⟨_, rfl⟩
  rw [hpl] at xl1
  have HC := hide (rcheck_any a n c H R w1 (hr.below b1))
  have cl1 := xl1.cell
  have HR1 := hide (hr.below b1)
  have HV1 := hide (hv.below b1)
  have XL1 := hide xl1
  have HB1 : Hid (Below w.heap.size w w1) := b1
  have q1 := hr.1
  have q2 := hr.2.1
  have q3 := hv.1
  have q4 := hv.2.1
  by_cases hk : mcode n R (lnH H) = 0
  case neg =>
    rw [errV_not hk] at HC
    have hcd : lgcode n R (lnH H) p V = mcode n R (lnH H) := if_pos hk
    rw [hcd]
    obtain ⟨k, hk2⟩ : ∃ k, mcode n R (lnH H) = k := ⟨_, rfl⟩
    rw [hk2] at HC hk ⊢
    have HK := hide hk
    clear hk hk2 hcd hr hv b1 xl1 HR1 HV1
    go_enter Tryd.func32, Tryd.ntmps32
    go_wp2_with fail
    refine (unhide HC).mono ?_
    rintro e w2 ⟨rfl, rfl⟩
    go_wp2
    go_ret2
    exact ⟨unhide HB1, Or.inl ⟨unhide HK, rfl⟩⟩
  have HG := hide (gmap_of hk)
  have h9 := (gmap_of hk).few
  rw [hk, errV_zero] at HC
  by_cases hp : 100 < p
  · have hcd : lgcode n R (lnH H) p V = 4 := by unfold lgcode; rw [if_neg (by simp [hk]), if_pos hp]
    rw [hcd]
    have e0 : (100 : Int) < (p : Int) := by omega
    clear hk hcd hr hv b1 xl1 HR1 HV1
    go_enter Tryd.func32, Tryd.ntmps32
    go_wp2_with fail
    refine (unhide HC).mono ?_
    rintro e w2 ⟨rfl, rfl⟩
    go_wp2
    go_ret2
    exact ⟨unhide HB1, Or.inl ⟨by decide, rfl⟩⟩
  have e0 : ¬ (100 : Int) < (p : Int) := by omega
  have HCF := hide (lgw_contains va p vc V n pl a c w1 (unhide HV1) (by omega) xl1 h9)
  cases hwy : wany n V p with
  | true =>
    have hcd : lgcode n R (lnH H) p V = 2 := by unfold lgcode; rw [if_neg (by simp [hk]), if_neg hp, if_pos hwy]
    rw [hcd]
    have hwy' : ((List.range p).any fun j => wbad n (V j)) = true := hwy
    rw [hwy'] at HCF
    clear hk hcd hr hv b1 xl1 HR1 HV1 hwy hwy'
    go_enter Tryd.func32, Tryd.ntmps32
    go_wp2_with fail
    refine (unhide HC).mono ?_
    rintro e w2 ⟨rfl, rfl⟩
    go_wp2_with fail
    refine (unhide HCF).mono ?_
    rintro e w3 ⟨rfl, rfl⟩
    go_wp2
    go_ret2
    exact ⟨unhide HB1, Or.inl ⟨by decide, rfl⟩⟩
  | false =>
    have hcd : lgcode n R (lnH H) p V = 0 := by unfold lgcode; rw [if_neg (by simp [hk]), if_neg hp, hwy]; rfl
    rw [hcd]
    have hwy' : ((List.range p).any fun j => wbad n (V j)) = false := hwy
    rw [hwy'] at HCF
    have HL := hide (long_any a n c H R va p vc V w1 (unhide HR1) (unhide HV1) (unhide HG) (wany_false hwy) (by omega))
    obtain ⟨x, hx⟩ : ∃ x, lngW R V p = x := ⟨_, rfl⟩
    rw [hx] at HL ⊢
    clear hk hcd hr hv b1 xl1 HR1 HV1 hwy hwy' hx
    go_enter Tryd.func32, Tryd.ntmps32
    go_wp2_with fail
    refine (unhide HC).mono ?_
    rintro e w2 ⟨rfl, rfl⟩
    go_wp2_with fail
    refine (unhide HCF).mono ?_
    rintro e w3 ⟨rfl, rfl⟩
    go_wp2_with fail
    refine (unhide HL).mono ?_
    rintro e w4 ⟨rfl, rfl⟩
    go_wp2
    go_ret2
    exact ⟨unhide HB1, Or.inr ⟨rfl, rfl⟩⟩
end Go.Proofs.YtcmddkekidgkoaaDoor
