/- Hidden states in memory; what may be; Check. -/
import Derived.Test.YtfnbjenneodcdaaGreatDoorBL0
namespace Go.Proofs.YtfnbjenneodcdaaGreatDoor
open Go.RowKit Go.Sort Go.Shelf

/-- Hidden states as the mathematics has them. -/
def hm (fs : List Rat) (P G : List (List Rat)) : Blf.Hm := ⟨fs.length, fun i => fs[i]!, fun i k => (P[i]!)[k]!, fun i k => (G[i]!)[k]!⟩
def hmval (sf sp sg : Sl) : Value := .agg #[.slice sf.a sf.n sf.c, .slice sp.a sp.n sp.c, .slice sg.a sg.n sg.c]
def HmIs (w : World) (v : Value) (fs : List Rat) (P G : List (List Rat)) : Prop := ∃ sf sp sg : Sl, v = hmval sf sp sg ∧ LawIs w sf.val fs ∧ RowsAre w sp.val P ∧ RowsAre w sg.val G
theorem HmIs.below {w w' : World} {v : Value} {fs : List Rat} {P G : List (List Rat)} (h : HmIs w v fs P G) (hb : Below w.heap.size w w') : HmIs w' v fs P G := by
  obtain ⟨sf, sp, sg, e, h1, h2, h3⟩ := h
  exact ⟨sf, sp, sg, e, h1.below hb, h2.below hb, h3.below hb⟩
/-- Their box. -/
def HBox (w : World) (b : Nat) (sf sp sg : Sl) (fs : List Rat) (P G : List (List Rat)) : Prop := w.heap[b]? = some (.cells #[.slice sf.a sf.n sf.c, .slice sp.a sp.n sp.c, .slice sg.a sg.n sg.c] 53) ∧ LawIs w sf.val fs ∧ RowsAre w sp.val P ∧ RowsAre w sg.val G
theorem HBox.new {w : World} {sf sp sg : Sl} {fs : List Rat} {P G : List (List Rat)} (h1 : LawIs w sf.val fs) (h2 : RowsAre w sp.val P) (h3 : RowsAre w sg.val G) : HBox (w.alloc (.cells #[.slice sf.a sf.n sf.c, .slice sp.a sp.n sp.c, .slice sg.a sg.n sg.c] 53)) w.heap.size sf sp sg fs P G := ⟨heap_alloc_new w _, h1.below (alloc_below w _), h2.below (alloc_below w _), h3.below (alloc_below w _)⟩
theorem HBox.lt {w : World} {sf sp sg : Sl} {fs : List Rat} {P G : List (List Rat)} {b : Nat} (h : HBox w b sf sp sg fs P G) : b < w.heap.size := (Array.getElem?_eq_some_iff.1 h.1).1
theorem HBox.keep {w : World} {sf sp sg : Sl} {fs : List Rat} {P G : List (List Rat)} {w' : World} {b : Nat} (h : HBox w b sf sp sg fs P G) (hb : Below w.heap.size w w') : HBox w' b sf sp sg fs P G := ⟨by rw [hb.block _ h.lt]; exact h.1, h.2.1.below hb, h.2.2.1.below hb, h.2.2.2.below hb⟩
theorem HBox.cells {w : World} {sf sp sg : Sl} {fs : List Rat} {P G : List (List Rat)} {b : Nat} (h : HBox w b sf sp sg fs P G) : ∀ W', Below w.heap.size w W' → W'.cell? ⟨b, 0, none⟩ = some (.slice sf.a sf.n sf.c) ∧ W'.cell? ⟨b, 1, none⟩ = some (.slice sp.a sp.n sp.c) ∧ W'.cell? ⟨b, 2, none⟩ = some (.slice sg.a sg.n sg.c) := fun W' hb => by
  have h' := (h.keep hb).1
  simp [World.cell?, h']
theorem HBox.hm {w : World} {sf sp sg : Sl} {fs : List Rat} {P G : List (List Rat)} {b : Nat} (h : HBox w b sf sp sg fs P G) : HmIs w (hmval sf sp sg) fs P G := ⟨sf, sp, sg, rfl, h.2.1, h.2.2.1, h.2.2.2⟩
/-- What Check says: 0, or the error's number. -/
def hst (n : Nat) (P G : List (List Rat)) (j : Nat) : Int := if shc n P[j]! = 0 then (if 1 ≤ (G[j]!).length ∧ (G[j]!).length ≤ 8 then shc (G[0]!).length G[j]! else 4) else shc n P[j]!
def hcd (n : Nat) (P G : List (List Rat)) : Nat → Int
  | 0 => 0
  | j + 1 => if hcd n P G j = 0 then hst n P G j else hcd n P G j
def hcode (fs : List Rat) (P G : List (List Rat)) : Int := if 1 ≤ fs.length ∧ fs.length ≤ 8 then (if P.length = fs.length ∧ G.length = fs.length then (if shc fs.length fs = 0 then hcd fs.length P G fs.length else shc fs.length fs) else 3) else 4
theorem hcd_stays {n : Nat} {P G : List (List Rat)} {i : Nat} (h : hcd n P G i ≠ 0) : ∀ d, hcd n P G (i + d) = hcd n P G i
  | 0 => rfl
  | d + 1 => by
    have ih := hcd_stays h d
    show (if hcd n P G (i + d) = 0 then _ else hcd n P G (i + d)) = _
    rw [ih, if_neg h]
theorem hcd_zero {n : Nat} {P G : List (List Rat)} : ∀ {m : Nat}, hcd n P G m = 0 → ∀ j, j < m → hst n P G j = 0
  | m + 1, h, j, hj => by
    have h : (if hcd n P G m = 0 then hst n P G m else hcd n P G m) = 0 := h
    by_cases e : hcd n P G m = 0
    · rw [if_pos e] at h
      by_cases ej : j = m
      · rw [ej]; exact h
      · exact hcd_zero e j (by omega)
    · rw [if_neg e] at h; exact absurd h e
theorem hcd_end {n : Nat} {P G : List (List Rat)} {j m : Nat} {k : Int} (hj : j < m) (h0 : hcd n P G j = 0) (h1 : hst n P G j = k) (hk : k ≠ 0) : hcd n P G m = k := by
  have e : hcd n P G (j + 1) = k := by
    show (if hcd n P G j = 0 then _ else _) = _
    rw [if_pos h0, h1]
  have := hcd_stays (n := n) (P := P) (G := G) (i := j + 1) (by rw [e]; exact hk) (m - (j + 1))
  rw [show j + 1 + (m - (j + 1)) = m by omega, e] at this
  exact this
/-- Hidden states that may be. -/
structure GoodH (fs : List Rat) (P G : List (List Rat)) : Prop where
  n1 : 1 ≤ fs.length
  n8 : fs.length ≤ 8
  pl : P.length = fs.length
  gl : G.length = fs.length
  px : ∀ i, i < fs.length → (P[i]!).length = fs.length
  gx : ∀ i, i < fs.length → (G[i]!).length = (G[0]!).length
  k1 : 1 ≤ (G[0]!).length
  k8 : (G[0]!).length ≤ 8
  ok : Blf.Ok (hm fs P G) (G[0]!).length
theorem shc_parts {n : Nat} {qs : List Rat} (h : shc n qs = 0) : qs.length = n ∧ (∀ j, j < n → 0 ≤ qs[j]!) ∧ Bth.ps (fun j => qs[j]!) n = 1 := by
  unfold shc at h
  by_cases e : qs.length = n
  rotate_left
  · rw [if_neg e] at h; exact absurd h (by decide)
  rw [if_pos e] at h
  have hp := chk_parts h
  refine ⟨e, fun j hj => hp.1 j (by omega), ?_⟩
  have h2 := hp.2
  rw [qsum_ps, e] at h2
  exact h2
theorem goodH_of {fs : List Rat} {P G : List (List Rat)} (h : hcode fs P G = 0) : GoodH fs P G := by
  unfold hcode at h
  by_cases a : 1 ≤ fs.length ∧ fs.length ≤ 8
  rotate_left
  · rw [if_neg a] at h; exact absurd h (by decide)
  rw [if_pos a] at h
  by_cases c : P.length = fs.length ∧ G.length = fs.length
  rotate_left
  · rw [if_neg c] at h; exact absurd h (by decide)
  rw [if_pos c] at h
  by_cases d : shc fs.length fs = 0
  rotate_left
  · rw [if_neg d] at h; exact absurd h d
  rw [if_pos d] at h
  have hs := hcd_zero h
  have hx : ∀ i, i < fs.length → shc fs.length P[i]! = 0 ∧ (1 ≤ (G[i]!).length ∧ (G[i]!).length ≤ 8) ∧ shc (G[0]!).length G[i]! = 0 := fun i hi => by
    have := hs i hi
    unfold hst at this
    by_cases e : shc fs.length P[i]! = 0
    rotate_left
    · rw [if_neg e] at this; exact absurd this e
    rw [if_pos e] at this
    by_cases e2 : 1 ≤ (G[i]!).length ∧ (G[i]!).length ≤ 8
    rotate_left
    · rw [if_neg e2] at this; exact absurd this (by decide)
    rw [if_pos e2] at this
    exact ⟨e, e2, this⟩
  have h0 := (hx 0 a.1).2.1
  exact ⟨a.1, a.2, c.1, c.2, fun i hi => (shc_parts (hx i hi).1).1, fun i hi => (shc_parts (hx i hi).2.2).1, h0.1, h0.2, (shc_parts d).2.1, fun i j hi hj => (shc_parts (hx i hi).1).2.1 j hj, fun i s hi hs => (shc_parts (hx i hi).2.2).2.1 s hs, (shc_parts d).2.2, fun i hi => (shc_parts (hx i hi).1).2.2, fun i hi => (shc_parts (hx i hi).2.2).2.2⟩
/-- Numbers as great as pairs make them, and not too many. -/
structure SmHm (fs : List Rat) (P G : List (List Rat)) : Prop where
  nf : fs.length ≤ 1000
  np : P.length ≤ 1000
  ng : G.length ≤ 1000
  pn : ∀ i, i < P.length → (P[i]!).length ≤ 1000
  gn : ∀ i, i < G.length → (G[i]!).length ≤ 1000
  rf : ∀ i, i < fs.length → RS fs[i]! 1
  rp : ∀ i k, i < P.length → k < (P[i]!).length → RS (P[i]!)[k]! 1
  rg : ∀ i k, i < G.length → k < (G[i]!).length → RS (G[i]!)[k]! 1
/-- Plain hidden states. -/
def PHmIs (w : World) (v : Value) (ps : List (Int × Int)) (pp pg : List (List (Int × Int))) : Prop := ∃ sf sp sg : Sl, v = hmval sf sp sg ∧ PairsAre w sf.val ps ∧ PRowsAre w sp.val pp ∧ PRowsAre w sg.val pg
theorem PHmIs.below {w w' : World} {v : Value} {ps : List (Int × Int)} {pp pg : List (List (Int × Int))} (h : PHmIs w v ps pp pg) (hb : Below w.heap.size w w') : PHmIs w' v ps pp pg := by
  obtain ⟨sf, sp, sg, e, h1, h2, h3⟩ := h
  exact ⟨sf, sp, sg, e, h1.below hb, h2.below hb, h3.below hb⟩
theorem prows_sm {w : World} {v : Value} {pss : List (List (Int × Int))} (hp : PRowsAre w v pss) (h1 : tot pss ≤ 30) : (pqss pss).length ≤ 1000 ∧ (∀ i, i < (pqss pss).length → ((pqss pss)[i]!).length ≤ 1000) ∧ ∀ i k, i < (pqss pss).length → k < ((pqss pss)[i]!).length → RS ((pqss pss)[i]!)[k]! 1 := by
  have hlen : pss.length ≤ 30 := by unfold tot at h1; omega
  have hrow : ∀ i, i < pss.length → (pss[i]!).length ≤ 30 := fun i hi => by
    have := lsum_one pss hi
    unfold tot at h1; omega
  refine ⟨by rw [pqss_length]; omega, fun i hi => ?_, fun i k hi hk => ?_⟩
  · rw [pqss_length] at hi
    rw [pqss_get hi, pqs_length]
    have := hrow i hi
    omega
  · rw [pqss_length] at hi
    rw [pqss_get hi] at hk ⊢
    obtain ⟨a, c, _, _, _, h3⟩ := hp
    obtain ⟨b, o, _, _, hc⟩ := h3 (by omega)
    obtain ⟨l', _, hl'⟩ := hc i hi
    exact pqs_RS hl' k hk
theorem smHm_of {w : World} {v : Value} {ps : List (Int × Int)} {pp pg : List (List (Int × Int))} (h : PHmIs w v ps pp pg) (h1 : tot pp ≤ 30) (h2 : tot pg ≤ 30) (h3 : ps.length ≤ 4) : SmHm (pqs ps) (pqss pp) (pqss pg) := by
  obtain ⟨sf, sp, sg, _, hf, hp, hg⟩ := h
  have a := prows_sm hp h1
  have b := prows_sm hg h2
  exact ⟨by rw [pqs_length]; omega, a.1, b.1, a.2.1, b.2.1, pqs_RS hf, a.2.2, b.2.2⟩

end Go.Proofs.YtfnbjenneodcdaaGreatDoor
