/- Chains in memory; what may be. -/
import Derived.Test.YtgpolilpgkhlkaaDoorT10
namespace Go.Proofs.YtgpolilpgkhlkaaDoor
open Go.RowKit Go.Sort Go.Shelf

/-- A chain as the mathematics has it. -/
def chn (P : List (List Rat)) (g : List Rat) (c : Rat) : Stp.Ch := ⟨P.length, fun i k => (P[i]!)[k]!, fun i => g[i]!, c⟩
def cval (l m : Sl) (t : Tri) : Value := .agg #[.slice l.a l.n l.c, .slice m.a m.n m.c, .bool t.s, .slice t.a1 t.n1 t.c1, .slice t.a2 t.n2 t.c2]
def ChainIs (w : World) (v : Value) (P : List (List Rat)) (g : List Rat) (c : Rat) : Prop := ∃ (l m : Sl) (t : Tri), v = cval l m t ∧ RowsAre w l.val P ∧ LawIs w m.val g ∧ RatIs w t.val c
theorem ChainIs.below {w w' : World} {v : Value} {P : List (List Rat)} {g : List Rat} {c : Rat} (h : ChainIs w v P g c) (hb : Below w.heap.size w w') : ChainIs w' v P g c := by
  obtain ⟨l, m, t, e, h1, h2, h3⟩ := h
  exact ⟨l, m, t, e, h1.below hb, h2.below hb, h3.below hb⟩
/-- A chain's box. -/
def CBox (w : World) (b : Nat) (l m : Sl) (t : Tri) (P : List (List Rat)) (g : List Rat) (c : Rat) : Prop := w.heap[b]? = some (.cells #[.slice l.a l.n l.c, .slice m.a m.n m.c, .bool t.s, .slice t.a1 t.n1 t.c1, .slice t.a2 t.n2 t.c2] 37) ∧ RowsAre w l.val P ∧ LawIs w m.val g ∧ RatIs w t.val c
theorem CBox.new {w : World} {l m : Sl} {t : Tri} {P : List (List Rat)} {g : List Rat} {c : Rat} (h1 : RowsAre w l.val P) (h2 : LawIs w m.val g) (h3 : RatIs w t.val c) : CBox (w.alloc (.cells #[.slice l.a l.n l.c, .slice m.a m.n m.c, .bool t.s, .slice t.a1 t.n1 t.c1, .slice t.a2 t.n2 t.c2] 37)) w.heap.size l m t P g c := ⟨heap_alloc_new w _, h1.below (alloc_below w _), h2.below (alloc_below w _), h3.below (alloc_below w _)⟩
theorem CBox.lt {w : World} {l m : Sl} {t : Tri} {P : List (List Rat)} {g : List Rat} {c : Rat} {b : Nat} (h : CBox w b l m t P g c) : b < w.heap.size := (Array.getElem?_eq_some_iff.1 h.1).1
theorem CBox.keep {w : World} {l m : Sl} {t : Tri} {P : List (List Rat)} {g : List Rat} {c : Rat} {w' : World} {b : Nat} (h : CBox w b l m t P g c) (hb : Below w.heap.size w w') : CBox w' b l m t P g c := ⟨by rw [hb.block _ h.lt]; exact h.1, h.2.1.below hb, h.2.2.1.below hb, h.2.2.2.below hb⟩
theorem CBox.cells {w : World} {l m : Sl} {t : Tri} {P : List (List Rat)} {g : List Rat} {c : Rat} {b : Nat} (h : CBox w b l m t P g c) : ∀ W', Below w.heap.size w W' → W'.cell? ⟨b, 0, none⟩ = some (.slice l.a l.n l.c) ∧ W'.cell? ⟨b, 1, none⟩ = some (.slice m.a m.n m.c) ∧ W'.cell? ⟨b, 2, none⟩ = some (.bool t.s) ∧ W'.cell? ⟨b, 3, none⟩ = some (.slice t.a1 t.n1 t.c1) ∧ W'.cell? ⟨b, 4, none⟩ = some (.slice t.a2 t.n2 t.c2) := fun W' hb => by
  have h' := (h.keep hb).1
  simp [World.cell?, h']
theorem CBox.chain {w : World} {l m : Sl} {t : Tri} {P : List (List Rat)} {g : List Rat} {c : Rat} {b : Nat} (h : CBox w b l m t P g c) : ChainIs w (cval l m t) P g c := ⟨l, m, t, rfl, h.2.1, h.2.2.1, h.2.2.2⟩
theorem rows_len {w : World} {l : Sl} {P : List (List Rat)} (h : RowsAre w l.val P) : l.n = P.length := by
  obtain ⟨a, c, e, _⟩ := h
  injection e
/-- One row. -/
theorem RowsAre.at {w : World} {l : Sl} {P : List (List Rat)} (h : RowsAre w l.val P) {i : Nat} (hi : i < P.length) : ∃ (b o : Nat) (m : Sl), l.a = some ⟨b, o, none⟩ ∧ b < w.heap.size ∧ w.cell? ⟨b, o + i, none⟩ = some (.slice m.a m.n m.c) ∧ LawIs w m.val P[i]! := by
  obtain ⟨a, c, e, _, _, h3⟩ := h
  obtain ⟨b, o, ea, hlt, hc⟩ := h3 (by omega)
  obtain ⟨m, k0, r⟩ := hc i hi
  have e1 : l.a = a := by injection e
  exact ⟨b, o, m, by rw [e1, ea], hlt, k0, r⟩

/-- What Check says of rows, of a chain: 0, or the error's number. -/
def rcd (n : Nat) (P : List (List Rat)) : Nat → Int
  | 0 => 0
  | j + 1 => if rcd n P j = 0 then shc n P[j]! else rcd n P j
def ccode (P : List (List Rat)) (g : List Rat) : Int := if 1 ≤ P.length ∧ P.length ≤ 8 then (if g.length = P.length then rcd P.length P P.length else 3) else 4
theorem rcd_stays {n : Nat} {P : List (List Rat)} {i : Nat} (h : rcd n P i ≠ 0) : ∀ d, rcd n P (i + d) = rcd n P i
  | 0 => rfl
  | d + 1 => by
    have ih := rcd_stays h d
    show (if rcd n P (i + d) = 0 then _ else rcd n P (i + d)) = _
    rw [ih, if_neg h]
theorem rcd_zero {n : Nat} {P : List (List Rat)} : ∀ {m : Nat}, rcd n P m = 0 → ∀ j, j < m → shc n P[j]! = 0
  | m + 1, h, j, hj => by
    have h : (if rcd n P m = 0 then shc n P[m]! else rcd n P m) = 0 := h
    by_cases e : rcd n P m = 0
    · rw [if_pos e] at h
      by_cases ej : j = m
      · rw [ej]; exact h
      · exact rcd_zero e j (by omega)
    · rw [if_neg e] at h; exact absurd h e
theorem rcd_end {n : Nat} {P : List (List Rat)} {j : Nat} {k : Int} (hj : j < P.length) (h0 : rcd n P j = 0) (h1 : shc n P[j]! = k) (hk : k ≠ 0) : rcd n P P.length = k := by
  have e : rcd n P (j + 1) = k := by
    show (if rcd n P j = 0 then _ else _) = _
    rw [if_pos h0, h1]
  have := rcd_stays (n := n) (P := P) (i := j + 1) (by rw [e]; exact hk) (P.length - (j + 1))
  rw [show j + 1 + (P.length - (j + 1)) = P.length by omega, e] at this
  exact this
/-- A chain that may be. -/
structure GoodC (P : List (List Rat)) (g : List Rat) : Prop where
  n1 : 1 ≤ P.length
  n8 : P.length ≤ 8
  gl : g.length = P.length
  nx : ∀ i, i < P.length → (P[i]!).length = P.length
  nn : ∀ i k, i < P.length → k < P.length → 0 ≤ (P[i]!)[k]!
theorem goodC_of {P : List (List Rat)} {g : List Rat} (h : ccode P g = 0) : GoodC P g := by
  unfold ccode at h
  by_cases a : 1 ≤ P.length ∧ P.length ≤ 8
  rotate_left
  · rw [if_neg a] at h; exact absurd h (by decide)
  rw [if_pos a] at h
  by_cases c : g.length = P.length
  rotate_left
  · rw [if_neg c] at h; exact absurd h (by decide)
  rw [if_pos c] at h
  have hs := rcd_zero h
  have hsh : ∀ i, i < P.length → (P[i]!).length = P.length ∧ chk P[i]! = 0 := fun i hi => by
    have := hs i hi
    unfold shc at this
    by_cases e : (P[i]!).length = P.length
    · rw [if_pos e] at this; exact ⟨e, this⟩
    · rw [if_neg e] at this; exact absurd this (by decide)
  exact ⟨a.1, a.2, c, fun i hi => (hsh i hi).1, fun i k hi hk => (chk_parts (hsh i hi).2).1 k (by rw [(hsh i hi).1]; exact hk)⟩
/-- Numbers as great as pairs make them, and not too many. -/
structure SmC (P : List (List Rat)) (g : List Rat) (c : Rat) : Prop where
  wc : RS c 1
  nk : P.length ≤ 1000
  nn : ∀ i, i < P.length → (P[i]!).length ≤ 1000
  rp : ∀ i k, i < P.length → k < (P[i]!).length → RS (P[i]!)[k]! 1
  ng : g.length ≤ 1000
  rg : ∀ i, i < g.length → RS g[i]! 1

/-- A plain chain. -/
def pcv (l m : Sl) (x y : Int) : Value := .agg #[.slice l.a l.n l.c, .slice m.a m.n m.c, .int .i64 x, .int .i64 y]
def PChainIs (w : World) (v : Value) (pss : List (List (Int × Int))) (ps : List (Int × Int)) (x y : Int) : Prop := ∃ l m : Sl, v = pcv l m x y ∧ PRowsAre w l.val pss ∧ PairsAre w m.val ps ∧ I64 x ∧ I64 y
theorem PChainIs.below {w w' : World} {v : Value} {pss : List (List (Int × Int))} {ps : List (Int × Int)} {x y : Int} (h : PChainIs w v pss ps x y) (hb : Below w.heap.size w w') : PChainIs w' v pss ps x y := by
  obtain ⟨l, m, e, h1, h2, h3⟩ := h
  exact ⟨l, m, e, h1.below hb, h2.below hb, h3⟩
theorem prows_len {w : World} {l : Sl} {pss : List (List (Int × Int))} (h : PRowsAre w l.val pss) : l.n = pss.length := by
  obtain ⟨a, c, e, _⟩ := h
  injection e
theorem smC_of {w : World} {v : Value} {pss : List (List (Int × Int))} {ps : List (Int × Int)} {x y : Int} (h : PChainIs w v pss ps x y) (h1 : tot pss ≤ 40) (h2 : ps.length ≤ 6) : SmC (pqss pss) (pqs ps) (pq (x, y)) := by
  obtain ⟨l, m, _, hp, hq, hx, hy⟩ := h
  have hlen : pss.length ≤ 40 := by unfold tot at h1; omega
  have hrow : ∀ i, i < pss.length → (pss[i]!).length ≤ 40 := fun i hi => by
    have := lsum_one pss hi
    unfold tot at h1; omega
  refine ⟨pq_RS hx hy, by rw [pqss_length]; omega, fun i hi => ?_, fun i k hi hk => ?_, by rw [pqs_length]; omega, pqs_RS hq⟩
  · rw [pqss_length] at hi
    rw [pqss_get hi, pqs_length]
    have := hrow i hi
    omega
  · rw [pqss_length] at hi
    rw [pqss_get hi] at hk ⊢
    obtain ⟨a, c, _, _, _, h3⟩ := hp
    obtain ⟨b, o, _, _, hc⟩ := h3 (by omega)
    obtain ⟨l', _, hl'⟩ := hc i hi
    exact pqs_RS hl' k hk
/-- A row of truths that is read. -/
def BRow (w : World) (v : Value) (n : Nat) (f : Nat → Bool) : Prop := ∃ (a : Option Addr) (c : Nat), v = .slice a n c ∧ n ≤ c ∧ c ≤ 9223372036854775807 ∧ (0 < n → ∃ b o, a = some ⟨b, o, none⟩ ∧ b < w.heap.size ∧ ∀ j, j < n → w.cell? ⟨b, o + j, none⟩ = some (.bool (f j)))
theorem BRow.below {w w' : World} {v : Value} {n : Nat} {f : Nat → Bool} (h : BRow w v n f) (hb : Below w.heap.size w w') : BRow w' v n f := by
  obtain ⟨a, c, e, h1, h2, h3⟩ := h
  refine ⟨a, c, e, h1, h2, fun hp => ?_⟩
  obtain ⟨b, o, ea, hlt, hc⟩ := h3 hp
  exact ⟨b, o, ea, Nat.lt_of_lt_of_le hlt hb.size, fun j hj => by rw [hb.cell (p := ⟨b, o + j, none⟩) hlt]; exact hc j hj⟩

end Go.Proofs.YtgpolilpgkhlkaaDoor
