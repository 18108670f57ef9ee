/- Models in memory; what may be. -/
import Derived.Test.YtjlohghknejjoaaGreatDoorIA
import Derived.Test.YtjlohghknejjoaaGreatDoorI20
import Derived.Test.YtjlohghknejjoaaGreatDoorMA
namespace Go.Proofs.YtjlohghknejjoaaGreatDoor
open Go.RowKit Go.Sort Go.Shelf

/-- A model as the mathematics has it. -/
def mdl (K : List (List (Rat × List Rat))) (b : Rat) : Mdp.Md := ⟨K.length, fun s => (K[s]!).length, fun s a => ((K[s]!)[a]!).1, fun s a t => (((K[s]!)[a]!).2)[t]!, b⟩
def mval (l : Sl) (t : Tri) : Value := .agg #[.slice l.a l.n l.c, .bool t.s, .slice t.a1 t.n1 t.c1, .slice t.a2 t.n2 t.c2]
def ModelIs (w : World) (v : Value) (K : List (List (Rat × List Rat))) (b : Rat) : Prop := ∃ (l : Sl) (t : Tri), v = mval l t ∧ StatesAre w l.val K ∧ RatIs w t.val b
/-- A model's box. -/
def MBox (w : World) (g : Nat) (l : Sl) (t : Tri) (K : List (List (Rat × List Rat))) (b : Rat) : Prop := w.heap[g]? = some (.cells #[.slice l.a l.n l.c, .bool t.s, .slice t.a1 t.n1 t.c1, .slice t.a2 t.n2 t.c2] 70) ∧ StatesAre w l.val K ∧ RatIs w t.val b
theorem MBox.new {w : World} {l : Sl} {t : Tri} {K : List (List (Rat × List Rat))} {b : Rat} (h1 : StatesAre w l.val K) (h2 : RatIs w t.val b) : MBox (w.alloc (.cells #[.slice l.a l.n l.c, .bool t.s, .slice t.a1 t.n1 t.c1, .slice t.a2 t.n2 t.c2] 70)) w.heap.size l t K b := ⟨heap_alloc_new w _, h1.below (alloc_below w _), h2.below (alloc_below w _)⟩
theorem MBox.lt {w : World} {g : Nat} {l : Sl} {t : Tri} {K : List (List (Rat × List Rat))} {b : Rat} (h : MBox w g l t K b) : g < w.heap.size := (Array.getElem?_eq_some_iff.1 h.1).1
theorem MBox.keep {w w' : World} {g : Nat} {l : Sl} {t : Tri} {K : List (List (Rat × List Rat))} {b : Rat} (h : MBox w g l t K b) (hb : Below w.heap.size w w') : MBox w' g l t K b := ⟨by rw [hb.block _ h.lt]; exact h.1, h.2.1.below hb, h.2.2.below hb⟩
theorem MBox.cells {w : World} {g : Nat} {l : Sl} {t : Tri} {K : List (List (Rat × List Rat))} {b : Rat} (h : MBox w g l t K b) : ∀ W', Below w.heap.size w W' → W'.cell? ⟨g, 0, none⟩ = some (.slice l.a l.n l.c) ∧ W'.cell? ⟨g, 1, none⟩ = some (.bool t.s) ∧ W'.cell? ⟨g, 2, none⟩ = some (.slice t.a1 t.n1 t.c1) ∧ W'.cell? ⟨g, 3, none⟩ = some (.slice t.a2 t.n2 t.c2) := fun W' hb => by
  have h' := (h.keep hb).1
  simp [World.cell?, h']
theorem MBox.model {w : World} {g : Nat} {l : Sl} {t : Tri} {K : List (List (Rat × List Rat))} {b : Rat} (h : MBox w g l t K b) : ModelIs w (mval l t) K b := ⟨l, t, rfl, h.2.1, h.2.2⟩
theorem states_len {w : World} {l : Sl} {K : List (List (Rat × List Rat))} (h : StatesAre w l.val K) : l.n = K.length := by
  obtain ⟨a, c, e, _⟩ := h
  injection e
theorem acts_len {w : World} {l : Sl} {ks : List (Rat × List Rat)} (h : ActsAre w l.val ks) : l.n = ks.length := by
  obtain ⟨a, c, e, _⟩ := h
  injection e
/-- One state's acts. -/
theorem StatesAre.at {w : World} {l : Sl} {K : List (List (Rat × List Rat))} (h : StatesAre w l.val K) {i : Nat} (hi : i < K.length) : ∃ (b o : Nat) (m : Sl), l.a = some ⟨b, o, none⟩ ∧ b < w.heap.size ∧ w.cell? ⟨b, o + i, none⟩ = some (.slice m.a m.n m.c) ∧ ActsAre w m.val K[i]! := by
  obtain ⟨a, c, e, _, _, h3⟩ := h
  obtain ⟨b, o, ea, hlt, hc⟩ := h3 (by omega)
  obtain ⟨m, k0, r⟩ := hc i hi
  have e1 : l.a = a := by injection e
  exact ⟨b, o, m, by rw [e1, ea], hlt, k0, r⟩
/-- One act. -/
theorem ActsAre.at {w : World} {l : Sl} {ks : List (Rat × List Rat)} (h : ActsAre w l.val ks) {j : Nat} (hj : j < ks.length) : ∃ (b o : Nat) (t : Tri) (m : Sl), l.a = some ⟨b, o, none⟩ ∧ b < w.heap.size ∧ (w.cell? ⟨b, o + j * 4, none⟩ = some (.bool t.s) ∧ w.cell? ⟨b, o + j * 4 + 1, none⟩ = some (.slice t.a1 t.n1 t.c1) ∧ w.cell? ⟨b, o + j * 4 + 2, none⟩ = some (.slice t.a2 t.n2 t.c2) ∧ w.cell? ⟨b, o + j * 4 + 3, none⟩ = some (.slice m.a m.n m.c)) ∧ ActIs w t m ks[j]! := by
  obtain ⟨a, c, e, _, _, h3⟩ := h
  obtain ⟨b, o, ea, hlt, hc⟩ := h3 (by omega)
  obtain ⟨t, m, k0, r⟩ := hc j hj
  have e1 : l.a = a := by injection e
  exact ⟨b, o, t, m, by rw [e1, ea], hlt, k0, r⟩

/-- What Check says of one act, of a state's acts, of states, of a model: 0, or the error's number. -/
def shc (n : Nat) (qs : List Rat) : Int := if qs.length = n then chk qs else 3
def acd (n : Nat) (ks : List (Rat × List Rat)) : Nat → Int
  | 0 => 0
  | j + 1 => if acd n ks j = 0 then shc n (ks[j]!).2 else acd n ks j
def stc (n : Nat) (ks : List (Rat × List Rat)) : Int := if 1 ≤ ks.length ∧ ks.length ≤ 8 then acd n ks ks.length else 4
def scd (n : Nat) (K : List (List (Rat × List Rat))) : Nat → Int
  | 0 => 0
  | j + 1 => if scd n K j = 0 then stc n K[j]! else scd n K j
def mcode (K : List (List (Rat × List Rat))) (b : Rat) : Int := if 1 ≤ K.length ∧ K.length ≤ 8 then (if b < 0 ∨ 1 ≤ b then 1 else scd K.length K K.length) else 4
theorem acd_stays {n : Nat} {ks : List (Rat × List Rat)} {i : Nat} (h : acd n ks i ≠ 0) : ∀ d, acd n ks (i + d) = acd n ks i
  | 0 => rfl
  | d + 1 => by
    have ih := acd_stays h d
    show (if acd n ks (i + d) = 0 then _ else acd n ks (i + d)) = _
    rw [ih, if_neg h]
theorem scd_stays {n : Nat} {K : List (List (Rat × List Rat))} {i : Nat} (h : scd n K i ≠ 0) : ∀ d, scd n K (i + d) = scd n K i
  | 0 => rfl
  | d + 1 => by
    have ih := scd_stays h d
    show (if scd n K (i + d) = 0 then _ else scd n K (i + d)) = _
    rw [ih, if_neg h]
theorem acd_zero {n : Nat} {ks : List (Rat × List Rat)} : ∀ {m : Nat}, acd n ks m = 0 → ∀ j, j < m → shc n (ks[j]!).2 = 0
  | m + 1, h, j, hj => by
    have h : (if acd n ks m = 0 then shc n (ks[m]!).2 else acd n ks m) = 0 := h
    by_cases e : acd n ks m = 0
    · rw [if_pos e] at h
      by_cases ej : j = m
      · rw [ej]; exact h
      · exact acd_zero e j (by omega)
    · rw [if_neg e] at h; exact absurd h e
theorem scd_zero {n : Nat} {K : List (List (Rat × List Rat))} : ∀ {m : Nat}, scd n K m = 0 → ∀ j, j < m → stc n K[j]! = 0
  | m + 1, h, j, hj => by
    have h : (if scd n K m = 0 then stc n K[m]! else scd n K m) = 0 := h
    by_cases e : scd n K m = 0
    · rw [if_pos e] at h
      by_cases ej : j = m
      · rw [ej]; exact h
      · exact scd_zero e j (by omega)
    · rw [if_neg e] at h; exact absurd h e
theorem acd_end {n : Nat} {ks : List (Rat × List Rat)} {j : Nat} {k : Int} (hj : j < ks.length) (h0 : acd n ks j = 0) (h1 : shc n (ks[j]!).2 = k) (hk : k ≠ 0) : acd n ks ks.length = k := by
  have e : acd n ks (j + 1) = k := by
    show (if acd n ks j = 0 then _ else _) = _
    rw [if_pos h0, h1]
  have := acd_stays (n := n) (ks := ks) (i := j + 1) (by rw [e]; exact hk) (ks.length - (j + 1))
  rw [show j + 1 + (ks.length - (j + 1)) = ks.length by omega, e] at this
  exact this
theorem scd_end {n : Nat} {K : List (List (Rat × List Rat))} {j : Nat} {k : Int} (hj : j < K.length) (h0 : scd n K j = 0) (h1 : stc n K[j]! = k) (hk : k ≠ 0) : scd n K K.length = k := by
  have e : scd n K (j + 1) = k := by
    show (if scd n K j = 0 then _ else _) = _
    rw [if_pos h0, h1]
  have := scd_stays (n := n) (K := K) (i := j + 1) (by rw [e]; exact hk) (K.length - (j + 1))
  rw [show j + 1 + (K.length - (j + 1)) = K.length by omega, e] at this
  exact this
/-- A model that may be. -/
structure GoodM (K : List (List (Rat × List Rat))) (b : Rat) : Prop where
  n1 : 1 ≤ K.length
  n8 : K.length ≤ 8
  a1 : ∀ s, s < K.length → 1 ≤ (K[s]!).length
  a8 : ∀ s, s < K.length → (K[s]!).length ≤ 8
  nx : ∀ s a, s < K.length → a < (K[s]!).length → (((K[s]!)[a]!).2).length = K.length
  ok : Mdp.Ok (mdl K b)
theorem qsum_ps (qs : List Rat) : ∀ n, qsum qs n = Bth.ps (fun t => qs[t]!) n
  | 0 => rfl
  | n + 1 => by
    show qsum qs n + _ = Bth.ps _ n + _
    rw [qsum_ps qs n]
theorem num_nn {q : Rat} (h : ¬ q.num < 0) : 0 ≤ q := by
  have : 0 ≤ q.num := by omega
  exact Rat.num_nonneg.1 this
theorem chk_parts {qs : List Rat} (h : chk qs = 0) : (∀ j, j < qs.length → 0 ≤ qs[j]!) ∧ qsum qs qs.length = 1 := by
  unfold chk at h
  by_cases a : qs.length < 1 ∨ 101 < qs.length
  · rw [if_pos a] at h; exact absurd h (by decide)
  rw [if_neg a] at h
  by_cases c : ∃ j, j < qs.length ∧ qs[j]!.num < 0
  · rw [if_pos c] at h; exact absurd h (by decide)
  rw [if_neg c] at h
  by_cases d : qsum qs qs.length = 1
  · exact ⟨fun j hj => num_nn (fun x => c ⟨j, hj, x⟩), d⟩
  · rw [if_neg d] at h; exact absurd h (by decide)
theorem good_of {K : List (List (Rat × List Rat))} {b : Rat} (h : mcode K b = 0) : GoodM K b := by
  unfold mcode at h
  by_cases a : 1 ≤ K.length ∧ K.length ≤ 8
  rotate_left
  · rw [if_neg a] at h; exact absurd h (by decide)
  rw [if_pos a] at h
  by_cases c : b < 0 ∨ 1 ≤ b
  · rw [if_pos c] at h; exact absurd h (by decide)
  rw [if_neg c] at h
  have hs := scd_zero h
  have hst : ∀ s, s < K.length → (1 ≤ (K[s]!).length ∧ (K[s]!).length ≤ 8) ∧ acd K.length K[s]! (K[s]!).length = 0 := fun s hs' => by
    have := hs s hs'
    unfold stc at this
    by_cases e : 1 ≤ (K[s]!).length ∧ (K[s]!).length ≤ 8
    · rw [if_pos e] at this; exact ⟨e, this⟩
    · rw [if_neg e] at this; exact absurd this (by decide)
  have hsh : ∀ s a, s < K.length → a < (K[s]!).length → (((K[s]!)[a]!).2).length = K.length ∧ chk ((K[s]!)[a]!).2 = 0 := fun s a h1 h2 => by
    have := acd_zero (hst s h1).2 a h2
    unfold shc at this
    by_cases e : (((K[s]!)[a]!).2).length = K.length
    · rw [if_pos e] at this; exact ⟨e, this⟩
    · rw [if_neg e] at this; exact absurd this (by decide)
  have hb0 : 0 ≤ b := Rat.not_lt.1 (fun x => c (Or.inl x))
  have hb1 : b < 1 := Rat.not_le.1 (fun x => c (Or.inr x))
  refine ⟨a.1, a.2, fun s h1 => (hst s h1).1.1, fun s h1 => (hst s h1).1.2, fun s t h1 h2 => (hsh s t h1 h2).1, ⟨fun s h1 => (hst s h1).1.1, hb0, hb1, fun s t u h1 h2 h3 => ?_, fun s t h1 h2 => ?_⟩⟩
  · have := hsh s t h1 h2
    exact (chk_parts this.2).1 u (by rw [this.1]; exact h3)
  · have := hsh s t h1 h2
    have e := (chk_parts this.2).2
    rw [this.1, qsum_ps] at e
    exact e
/-- Numbers as great as pairs make them, and not too many. -/
structure SmM (K : List (List (Rat × List Rat))) (b : Rat) : Prop where
  wb : RS b 1
  nk : K.length ≤ 1000
  na : ∀ s, s < K.length → (K[s]!).length ≤ 1000
  nn : ∀ s a, s < K.length → a < (K[s]!).length → (((K[s]!)[a]!).2).length ≤ 1000
  rg : ∀ s a, s < K.length → a < (K[s]!).length → RS ((K[s]!)[a]!).1 1
  rp : ∀ s a t, s < K.length → a < (K[s]!).length → t < (((K[s]!)[a]!).2).length → RS (((K[s]!)[a]!).2)[t]! 1
def Fit8 (n : Int) : Prop := 1 ≤ n ∧ n ≤ 8
def ErrPost (w : World) (k : Int) (e : Ending) (w' : World) : Prop := e = .returned (errV k) ∧ Below w.heap.size w w'

set_option maxHeartbeats 16000000 in
set_option maxRecDepth 100000 in
set_option linter.unusedSimpArgs false in
theorem fits_any (n : Int) (w : World) (h0 : -9223372036854775808 ≤ n) (h1 : n ≤ 9223372036854775807) : Calls Tryz.prog 77 #[.int .i64 n] w (AskPost w (Fit8 n)) := by
  by_cases a : 1 ≤ n
  · by_cases b : n ≤ 8
    · go_enter Tryz.func77, Tryz.ntmps77
      go_wp2
      go_ret
      exact ⟨Or.inl ⟨⟨a, b⟩, rfl⟩, Below.refl _ _⟩
    · go_enter Tryz.func77, Tryz.ntmps77
      go_wp2
      go_ret
      exact ⟨Or.inr ⟨fun x => absurd x.2 (by omega), rfl⟩, Below.refl _ _⟩
  · go_enter Tryz.func77, Tryz.ntmps77
    go_wp2
    go_ret
    exact ⟨Or.inr ⟨fun x => absurd x.1 (by omega), rfl⟩, Below.refl _ _⟩

set_option maxHeartbeats 16000000 in
set_option maxRecDepth 100000 in
set_option linter.unusedSimpArgs false in
theorem cshares_any (v : Value) (qs : List Rat) (n : Nat) (w : World) (h : LawIs w v qs) (_hn : n ≤ 1000) (hq : ∀ j, j < qs.length → RS qs[j]! 1) (hl : qs.length ≤ 1000) : Calls Tryz.prog 70 #[v, .int .i64 (n : Int)] w (ErrPost w (shc n qs)) := by
  have KKe : KK = 1099511627776 := rfl
  have HCK := hide (check_any v qs 1 w h hq (by rw [KKe]; omega))
  obtain ⟨a, c, rfl, h1, h2, h3⟩ := h
  clear h3 hq
  by_cases hne : qs.length = n
  · have e1 : ((qs.length : Int) == (n : Int)) = true := by rw [beq_iff_eq]; omega
    have HE : Hid (shc n qs = chk qs) := by show shc n qs = chk qs; unfold shc; rw [if_pos hne]
    clear hne
    go_enter Tryz.func70, Tryz.ntmps70
    go_wp2_with fail
    refine (unhide HCK).mono ?_
    rintro e w1 ⟨rfl, hb1⟩
    obtain ⟨E, hE⟩ : ∃ E, errV (chk qs) = E := ⟨_, rfl⟩
    rw [hE]
    have HEE := hide hE
    clear hE HCK
    go_wp2
    go_ret
    exact ⟨by rw [unhide HE, unhide HEE]; rfl, hb1⟩
  · have e1 : ((qs.length : Int) == (n : Int)) = false := by rw [beq_eq_false_iff_ne]; omega
    have HE : Hid (shc n qs = 3) := by show shc n qs = 3; unfold shc; rw [if_neg hne]
    clear hne HCK
    go_enter Tryz.func70, Tryz.ntmps70
    go_wp2
    go_ret
    exact ⟨by rw [unhide HE]; rfl, Below.refl _ _⟩

end Go.Proofs.YtjlohghknejjoaaGreatDoor
/- Models: Check. -/
namespace Go.Proofs.YtjlohghknejjoaaGreatDoor
open Go.RowKit Go.Sort Go.Shelf

set_option maxHeartbeats 16000000 in
set_option maxRecDepth 100000 in
set_option linter.unusedSimpArgs false in
theorem mcheck_any (v : Value) (K : List (List (Rat × List Rat))) (b : Rat) (w : World) (h : ModelIs w v K b) (sm : SmM K b) : Calls Tryz.prog 49 #[v] w (ErrPost w (mcode K b)) := by
  have KKe : KK = 1099511627776 := rfl
  obtain ⟨l, t, rfl, hS, hR⟩ := h
  have hln := states_len hS
  have hnk := sm.nk
  have X0 := MBox.new hS hR
  have b0 := alloc_below w (.cells #[.slice l.a l.n l.c, .bool t.s, .slice t.a1 t.n1 t.c1, .slice t.a2 t.n2 t.c2] 70)
  obtain ⟨W0, hW0⟩ : ∃ W, w.alloc (.cells #[.slice l.a l.n l.c, .bool t.s, .slice t.a1 t.n1 t.c1, .slice t.a2 t.n2 t.c2] 70) = W := ⟨_, rfl⟩
  obtain ⟨g, hg⟩ : ∃ g, w.heap.size = g := ⟨_, rfl⟩
  rw [hW0] at X0 b0
  rw [hg] at X0
  have ⟨c0, c1, c2, c3⟩ := X0.cells _ (Below.refl _ _)
  have HX0 := hide X0
  have HB0 := hide b0
  have HSM := hide sm
  have HLN := hide hln
  obtain ⟨n, hn⟩ : ∃ n, K.length = n := ⟨_, rfl⟩
  rw [hn] at hnk hln
  have HN := hide hn
  rw [hln] at c0
  unfold mval
  rw [hln] at hW0 ⊢
  clear hS hR X0 b0 sm hn
  go_enter Tryz.func49, Tryz.ntmps49
  go_wp2_with fail
  refine (fits_any (n : Int) W0 (by omega) (by omega)).mono ?_
  rintro e w1 ⟨(⟨hx, rfl⟩ | ⟨hx, rfl⟩), hb1⟩
  rotate_left
  · have HE : Hid (mcode K b = 4) := by
      show mcode K b = 4
      unfold mcode
      rw [if_neg (fun x => hx ⟨by have := unhide HN; omega, by have := unhide HN; omega⟩)]
    have HB1 := hide (below_step (unhide HB0) hb1)
    clear hx hb1 hW0 hg c0 c1 c2 c3
    go_wp2
    go_ret
    exact ⟨by rw [unhide HE]; rfl, unhide HB1⟩
  have HFIT : Hid (1 ≤ K.length ∧ K.length ≤ 8) := ⟨by have := unhide HN; have := hx.1; omega, by have := unhide HN; have := hx.2; omega⟩
  have HX1 := hide ((unhide HX0).keep hb1)
  have HB1 := hide (below_step (unhide HB0) hb1)
  have HCC : Hid (∀ W, Below w1.heap.size w1 W → (fun w' : World => w'.cell? ⟨g, 0, none⟩ = some (.slice l.a n l.c) ∧ w'.cell? ⟨g, 1, none⟩ = some (.bool t.s) ∧ w'.cell? ⟨g, 2, none⟩ = some (.slice t.a1 t.n1 t.c1) ∧ w'.cell? ⟨g, 3, none⟩ = some (.slice t.a2 t.n2 t.c2)) W) := fun W hW => by
    have := (unhide HX1).cells W hW
    rw [unhide HLN, unhide HN] at this
    exact this
  have HSG : Hid (∀ W, Below w1.heap.size w1 W → Calls Tryz.prog 18 #[.agg #[.bool t.s, .slice t.a1 t.n1 t.c1, .slice t.a2 t.n2 t.c2]] W fun e w' => e = .returned (.int .i64 b.num.sign) ∧ Below W.heap.size W w') := fun W hW => sign_any t.val b W ((unhide HX1).2.2.below hW)
  have HCM : Hid (∀ W v, Below w1.heap.size w1 W → RatIs W v ((1 : Int) : Rat) → Calls Tryz.prog 14 #[.agg #[.bool t.s, .slice t.a1 t.n1 t.c1, .slice t.a2 t.n2 t.c2], v] W fun e w' => e = .returned (.int .i64 (cmpv b ((1 : Int) : Rat))) ∧ Below W.heap.size W w') := fun W v hW hv => cmpR_all t.val v b _ W ((unhide HX1).2.2.below hW) hv 1 (unhide HSM).wb one_RS' (by rw [KKe]; omega)
  clear hx hb1 hW0 hg c0 c1 c2 c3 HX0 HB0
  go_wp2_with fail
  by_cases hneg : b < 0
  · have HE : Hid (mcode K b = 1) := by
      show mcode K b = 1
      unfold mcode
      rw [if_pos (unhide HFIT), if_pos (Or.inl hneg)]
    rw [sign_neg hneg] at HSG
    clear hneg HCM
    refine wp_region_hold (fun w' : World => w'.cell? ⟨g, 0, none⟩ = some (.slice l.a n l.c) ∧ w'.cell? ⟨g, 1, none⟩ = some (.bool t.s) ∧ w'.cell? ⟨g, 2, none⟩ = some (.slice t.a1 t.n1 t.c1) ∧ w'.cell? ⟨g, 3, none⟩ = some (.slice t.a2 t.n2 t.c2)) (by kernel_rfl) ?_
    have bd0 : Below w1.heap.size w1 w1.drew := (Below.refl _ _).drew
    have hC0 : (fun w' : World => w'.cell? ⟨g, 0, none⟩ = some (.slice l.a n l.c) ∧ w'.cell? ⟨g, 1, none⟩ = some (.bool t.s) ∧ w'.cell? ⟨g, 2, none⟩ = some (.slice t.a1 t.n1 t.c1) ∧ w'.cell? ⟨g, 3, none⟩ = some (.slice t.a2 t.n2 t.c2)) w1.drew := unhide HCC _ bd0
    refine wpHold_take (i := 0) (v := ?_) rfl (by kernel_rfl) (by kernel_rfl) (by kernel_rfl) (fun _ _ _ h => h) (Or.inl ⟨by rfl, ?_⟩) hC0 ?_
    rotate_left
    · intro w hSw; clear hSw; go_simp; (try with_reducible rfl)
    (try simp only [List.getElem_toArray, List.getElem_cons_succ, List.getElem_cons_zero])
    (try simp only [Act.put, List.setIfInBounds_toArray, List.set_cons_zero, List.set_cons_succ])
    refine wpHold_take (i := 1) (v := ?_) rfl (by kernel_rfl) (by kernel_rfl) (by kernel_rfl) (fun _ _ _ h => h) (Or.inl ⟨by rfl, ?_⟩) hC0 ?_
    rotate_left
    · intro w hSw; (try dsimp only at hSw); obtain ⟨z0, z1, z2, z3⟩ := hSw; go_simp; (try with_reducible rfl)
    (try simp only [List.getElem_toArray, List.getElem_cons_succ, List.getElem_cons_zero])
    (try simp only [Act.put, List.setIfInBounds_toArray, List.set_cons_zero, List.set_cons_succ])
    refine wpHold_one (k := 2) (by kernel_rfl) rfl (fun K hK => ?_)
    (try simp only [List.getElem_toArray, List.getElem_cons_succ, List.getElem_cons_zero])
    go_simp
    refine (unhide HSG _ bd0).mono ?_
    rintro e xw_1 ⟨rfl, hb_1⟩
    have cc_1 := below_step bd0 hb_1
    have hC_1 : (fun w' : World => w'.cell? ⟨g, 0, none⟩ = some (.slice l.a n l.c) ∧ w'.cell? ⟨g, 1, none⟩ = some (.bool t.s) ∧ w'.cell? ⟨g, 2, none⟩ = some (.slice t.a1 t.n1 t.c1) ∧ w'.cell? ⟨g, 3, none⟩ = some (.slice t.a2 t.n2 t.c2)) xw_1 := unhide HCC _ cc_1
    refine hK.out _ _ hC_1 ?_
    clear hK K
    (try simp only [Act.put, List.setIfInBounds_toArray, List.set_cons_zero, List.set_cons_succ])
    refine wpHold_take (i := 3) (v := ?_) rfl (by kernel_rfl) (by kernel_rfl) (by kernel_rfl) (fun _ _ _ h => h) (Or.inl ⟨by rfl, ?_⟩) hC_1 ?_
    rotate_left
    · intro w hSw; clear hSw; go_simp; (try with_reducible rfl)
    (try simp only [List.getElem_toArray, List.getElem_cons_succ, List.getElem_cons_zero])
    (try simp only [Act.put, List.setIfInBounds_toArray, List.set_cons_zero, List.set_cons_succ])
    refine wpHold_take (i := 4) (v := ?_) rfl (by kernel_rfl) (by kernel_rfl) (by kernel_rfl) (fun _ _ _ h => h) (Or.inl ⟨by rfl, ?_⟩) hC_1 ?_
    rotate_left
    · intro w hSw; clear hSw; go_simp; (try with_reducible rfl)
    (try simp only [List.getElem_toArray, List.getElem_cons_succ, List.getElem_cons_zero])
    (try simp only [Act.put, List.setIfInBounds_toArray, List.set_cons_zero, List.set_cons_succ])
    refine wpHold_take (i := 5) (v := undef) rfl (by kernel_rfl) (by kernel_rfl) (by kernel_rfl) (fun _ _ _ h => h) (Or.inr ⟨by rfl, rfl⟩) hC_1 ?_
    (try simp only [List.getElem_toArray, List.getElem_cons_succ, List.getElem_cons_zero])
    (try simp only [Act.put, List.setIfInBounds_toArray, List.set_cons_zero, List.set_cons_succ])
    refine wpHold_take (i := 6) (v := undef) rfl (by kernel_rfl) (by kernel_rfl) (by kernel_rfl) (fun _ _ _ h => h) (Or.inr ⟨by rfl, rfl⟩) hC_1 ?_
    (try simp only [List.getElem_toArray, List.getElem_cons_succ, List.getElem_cons_zero])
    (try simp only [Act.put, List.setIfInBounds_toArray, List.set_cons_zero, List.set_cons_succ])
    refine wpHold_take (i := 7) (v := undef) rfl (by kernel_rfl) (by kernel_rfl) (by kernel_rfl) (fun _ _ _ h => h) (Or.inr ⟨by rfl, rfl⟩) hC_1 ?_
    (try simp only [List.getElem_toArray, List.getElem_cons_succ, List.getElem_cons_zero])
    (try simp only [Act.put, List.setIfInBounds_toArray, List.set_cons_zero, List.set_cons_succ])
    refine wpHold_take (i := 8) (v := undef) rfl (by kernel_rfl) (by kernel_rfl) (by kernel_rfl) (fun _ _ _ h => h) (Or.inr ⟨by rfl, rfl⟩) hC_1 ?_
    (try simp only [List.getElem_toArray, List.getElem_cons_succ, List.getElem_cons_zero])
    (try simp only [Act.put, List.setIfInBounds_toArray, List.set_cons_zero, List.set_cons_succ])
    refine wpHold_take (i := 9) (v := undef) rfl (by kernel_rfl) (by kernel_rfl) (by kernel_rfl) (fun _ _ _ h => h) (Or.inr ⟨by rfl, rfl⟩) hC_1 ?_
    (try simp only [List.getElem_toArray, List.getElem_cons_succ, List.getElem_cons_zero])
    (try simp only [Act.put, List.setIfInBounds_toArray, List.set_cons_zero, List.set_cons_succ])
    refine wpHold_take (i := 10) (v := ?_) rfl (by kernel_rfl) (by kernel_rfl) (by kernel_rfl) (fun _ _ _ h => h) (Or.inl ⟨by rfl, ?_⟩) hC_1 ?_
    rotate_left
    · intro w hSw; clear hSw; go_simp; (try with_reducible rfl)
    (try simp only [List.getElem_toArray, List.getElem_cons_succ, List.getElem_cons_zero])
    (try simp only [Act.put, List.setIfInBounds_toArray, List.set_cons_zero, List.set_cons_succ])
    refine wpHold_done (by kernel_rfl) ?_ _
    have HB2 := hide (below_step (unhide HB1) cc_1)
    clear hC0 hC_1 cc_1 bd0 hb_1
    go_wp2
    go_ret
    exact ⟨by rw [unhide HE]; rfl, unhide HB2⟩
  have s0 := sign_nn hneg
  obtain ⟨x, hx⟩ : ∃ x, b.num.sign = x := ⟨_, rfl⟩
  rw [hx] at s0 HSG
  have hd : decide (x < 0) = false := decide_eq_false (by omega)
  clear hx s0
  by_cases hbig : 1 ≤ b
  · have HE : Hid (mcode K b = 1) := by
      show mcode K b = 1
      unfold mcode
      rw [if_pos (unhide HFIT), if_pos (Or.inr hbig)]
    have ⟨y0, y1⟩ := cmpv_ge (a := b) (b := ((1 : Int) : Rat)) hbig
    obtain ⟨y, hy⟩ : ∃ y, cmpv b ((1 : Int) : Rat) = y := ⟨_, rfl⟩
    rw [hy] at y0 y1 HCM
    have hd2 : decide (0 ≤ y) = true := decide_eq_true y0
    clear hneg hbig hy
    refine wp_region_hold (fun w' : World => w'.cell? ⟨g, 0, none⟩ = some (.slice l.a n l.c) ∧ w'.cell? ⟨g, 1, none⟩ = some (.bool t.s) ∧ w'.cell? ⟨g, 2, none⟩ = some (.slice t.a1 t.n1 t.c1) ∧ w'.cell? ⟨g, 3, none⟩ = some (.slice t.a2 t.n2 t.c2)) (by kernel_rfl) ?_
    have bd0 : Below w1.heap.size w1 w1.drew := (Below.refl _ _).drew
    have hC0 : (fun w' : World => w'.cell? ⟨g, 0, none⟩ = some (.slice l.a n l.c) ∧ w'.cell? ⟨g, 1, none⟩ = some (.bool t.s) ∧ w'.cell? ⟨g, 2, none⟩ = some (.slice t.a1 t.n1 t.c1) ∧ w'.cell? ⟨g, 3, none⟩ = some (.slice t.a2 t.n2 t.c2)) w1.drew := unhide HCC _ bd0
    refine wpHold_take (i := 0) (v := ?_) rfl (by kernel_rfl) (by kernel_rfl) (by kernel_rfl) (fun _ _ _ h => h) (Or.inl ⟨by rfl, ?_⟩) hC0 ?_
    rotate_left
    · intro w hSw; clear hSw; go_simp; (try with_reducible rfl)
    (try simp only [List.getElem_toArray, List.getElem_cons_succ, List.getElem_cons_zero])
    (try simp only [Act.put, List.setIfInBounds_toArray, List.set_cons_zero, List.set_cons_succ])
    refine wpHold_take (i := 1) (v := ?_) rfl (by kernel_rfl) (by kernel_rfl) (by kernel_rfl) (fun _ _ _ h => h) (Or.inl ⟨by rfl, ?_⟩) hC0 ?_
    rotate_left
    · intro w hSw; (try dsimp only at hSw); obtain ⟨z0, z1, z2, z3⟩ := hSw; go_simp; (try with_reducible rfl)
    (try simp only [List.getElem_toArray, List.getElem_cons_succ, List.getElem_cons_zero])
    (try simp only [Act.put, List.setIfInBounds_toArray, List.set_cons_zero, List.set_cons_succ])
    refine wpHold_one (k := 2) (by kernel_rfl) rfl (fun K hK => ?_)
    (try simp only [List.getElem_toArray, List.getElem_cons_succ, List.getElem_cons_zero])
    go_simp
    refine (unhide HSG _ bd0).mono ?_
    rintro e xw_1 ⟨rfl, hb_1⟩
    have cc_1 := below_step bd0 hb_1
    have hC_1 : (fun w' : World => w'.cell? ⟨g, 0, none⟩ = some (.slice l.a n l.c) ∧ w'.cell? ⟨g, 1, none⟩ = some (.bool t.s) ∧ w'.cell? ⟨g, 2, none⟩ = some (.slice t.a1 t.n1 t.c1) ∧ w'.cell? ⟨g, 3, none⟩ = some (.slice t.a2 t.n2 t.c2)) xw_1 := unhide HCC _ cc_1
    refine hK.out _ _ hC_1 ?_
    clear hK K
    (try simp only [Act.put, List.setIfInBounds_toArray, List.set_cons_zero, List.set_cons_succ])
    refine wpHold_take (i := 3) (v := ?_) rfl (by kernel_rfl) (by kernel_rfl) (by kernel_rfl) (fun _ _ _ h => h) (Or.inl ⟨by rfl, ?_⟩) hC_1 ?_
    rotate_left
    · intro w hSw; clear hSw; go_simp; (try with_reducible rfl)
    (try simp only [List.getElem_toArray, List.getElem_cons_succ, List.getElem_cons_zero])
    (try simp only [Act.put, List.setIfInBounds_toArray, List.set_cons_zero, List.set_cons_succ])
    refine wpHold_take (i := 4) (v := ?_) rfl (by kernel_rfl) (by kernel_rfl) (by kernel_rfl) (fun _ _ _ h => h) (Or.inl ⟨by rfl, ?_⟩) hC_1 ?_
    rotate_left
    · intro w hSw; clear hSw; go_simp; (try with_reducible rfl)
    (try simp only [List.getElem_toArray, List.getElem_cons_succ, List.getElem_cons_zero])
    (try simp only [Act.put, List.setIfInBounds_toArray, List.set_cons_zero, List.set_cons_succ])
    refine wpHold_take (i := 5) (v := ?_) rfl (by kernel_rfl) (by kernel_rfl) (by kernel_rfl) (fun _ _ _ h => h) (Or.inl ⟨by rfl, ?_⟩) hC_1 ?_
    rotate_left
    · intro w hSw; clear hSw; go_simp; (try with_reducible rfl)
    (try simp only [List.getElem_toArray, List.getElem_cons_succ, List.getElem_cons_zero])
    (try simp only [Act.put, List.setIfInBounds_toArray, List.set_cons_zero, List.set_cons_succ])
    refine wpHold_take (i := 6) (v := ?_) rfl (by kernel_rfl) (by kernel_rfl) (by kernel_rfl) (fun _ _ _ h => h) (Or.inl ⟨by rfl, ?_⟩) hC_1 ?_
    rotate_left
    · intro w hSw; (try dsimp only at hSw); obtain ⟨z0, z1, z2, z3⟩ := hSw; go_simp; (try with_reducible rfl)
    (try simp only [List.getElem_toArray, List.getElem_cons_succ, List.getElem_cons_zero])
    (try simp only [Act.put, List.setIfInBounds_toArray, List.set_cons_zero, List.set_cons_succ])
    refine wpHold_one (k := 7) (by kernel_rfl) rfl (fun K hK => ?_)
    (try simp only [List.getElem_toArray, List.getElem_cons_succ, List.getElem_cons_zero])
    go_simp
    refine (whole_any 1 (by decide) (by decide) _).mono ?_
    rintro e xw_2 ⟨xv_2, rfl, hv_2, hb_2⟩
    have cc_2 := below_step cc_1 hb_2
    have hC_2 : (fun w' : World => w'.cell? ⟨g, 0, none⟩ = some (.slice l.a n l.c) ∧ w'.cell? ⟨g, 1, none⟩ = some (.bool t.s) ∧ w'.cell? ⟨g, 2, none⟩ = some (.slice t.a1 t.n1 t.c1) ∧ w'.cell? ⟨g, 3, none⟩ = some (.slice t.a2 t.n2 t.c2)) xw_2 := unhide HCC _ cc_2
    refine hK.out _ _ hC_2 ?_
    clear hK K
    (try simp only [Act.put, List.setIfInBounds_toArray, List.set_cons_zero, List.set_cons_succ])
    refine wpHold_one (k := 8) (by kernel_rfl) rfl (fun K hK => ?_)
    (try simp only [List.getElem_toArray, List.getElem_cons_succ, List.getElem_cons_zero])
    go_simp
    refine (unhide HCM _ _ cc_2 hv_2).mono ?_
    rintro e xw_3 ⟨rfl, hb_3⟩
    have cc_3 := below_step cc_2 hb_3
    have hC_3 : (fun w' : World => w'.cell? ⟨g, 0, none⟩ = some (.slice l.a n l.c) ∧ w'.cell? ⟨g, 1, none⟩ = some (.bool t.s) ∧ w'.cell? ⟨g, 2, none⟩ = some (.slice t.a1 t.n1 t.c1) ∧ w'.cell? ⟨g, 3, none⟩ = some (.slice t.a2 t.n2 t.c2)) xw_3 := unhide HCC _ cc_3
    refine hK.out _ _ hC_3 ?_
    clear hK K
    (try simp only [Act.put, List.setIfInBounds_toArray, List.set_cons_zero, List.set_cons_succ])
    refine wpHold_take (i := 9) (v := ?_) rfl (by kernel_rfl) (by kernel_rfl) (by kernel_rfl) (fun _ _ _ h => h) (Or.inl ⟨by rfl, ?_⟩) hC_3 ?_
    rotate_left
    · intro w hSw; clear hSw; go_simp; (try with_reducible rfl)
    (try simp only [List.getElem_toArray, List.getElem_cons_succ, List.getElem_cons_zero])
    (try simp only [Act.put, List.setIfInBounds_toArray, List.set_cons_zero, List.set_cons_succ])
    refine wpHold_take (i := 10) (v := ?_) rfl (by kernel_rfl) (by kernel_rfl) (by kernel_rfl) (fun _ _ _ h => h) (Or.inl ⟨by rfl, ?_⟩) hC_3 ?_
    rotate_left
    · intro w hSw; clear hSw; go_simp; (try with_reducible rfl)
    (try simp only [List.getElem_toArray, List.getElem_cons_succ, List.getElem_cons_zero])
    (try simp only [Act.put, List.setIfInBounds_toArray, List.set_cons_zero, List.set_cons_succ])
    refine wpHold_done (by kernel_rfl) ?_ _
    have HB2 := hide (below_step (unhide HB1) cc_3)
    clear hC0 hC_1 hC_2 hC_3 cc_1 cc_2 cc_3 bd0 hb_1 hb_2 hb_3 hv_2
    go_wp2
    go_ret
    exact ⟨by rw [unhide HE]; rfl, unhide HB2⟩
  have HE : Hid (mcode K b = scd K.length K K.length) := by
    show mcode K b = _
    unfold mcode
    rw [if_pos (unhide HFIT), if_neg (fun x => x.elim hneg hbig)]
  have hb1' : b < ((1 : Int) : Rat) := Rat.not_le.1 hbig
  rw [cmpv_lt hb1'] at HCM
  clear hneg hbig hb1'
  refine wp_region_hold (fun w' : World => w'.cell? ⟨g, 0, none⟩ = some (.slice l.a n l.c) ∧ w'.cell? ⟨g, 1, none⟩ = some (.bool t.s) ∧ w'.cell? ⟨g, 2, none⟩ = some (.slice t.a1 t.n1 t.c1) ∧ w'.cell? ⟨g, 3, none⟩ = some (.slice t.a2 t.n2 t.c2)) (by kernel_rfl) ?_
  have bd0 : Below w1.heap.size w1 w1.drew := (Below.refl _ _).drew
  have hC0 : (fun w' : World => w'.cell? ⟨g, 0, none⟩ = some (.slice l.a n l.c) ∧ w'.cell? ⟨g, 1, none⟩ = some (.bool t.s) ∧ w'.cell? ⟨g, 2, none⟩ = some (.slice t.a1 t.n1 t.c1) ∧ w'.cell? ⟨g, 3, none⟩ = some (.slice t.a2 t.n2 t.c2)) w1.drew := unhide HCC _ bd0
  refine wpHold_take (i := 0) (v := ?_) rfl (by kernel_rfl) (by kernel_rfl) (by kernel_rfl) (fun _ _ _ h => h) (Or.inl ⟨by rfl, ?_⟩) hC0 ?_
  rotate_left
  · intro w hSw; clear hSw; go_simp; (try with_reducible rfl)
  (try simp only [List.getElem_toArray, List.getElem_cons_succ, List.getElem_cons_zero])
  (try simp only [Act.put, List.setIfInBounds_toArray, List.set_cons_zero, List.set_cons_succ])
  refine wpHold_take (i := 1) (v := ?_) rfl (by kernel_rfl) (by kernel_rfl) (by kernel_rfl) (fun _ _ _ h => h) (Or.inl ⟨by rfl, ?_⟩) hC0 ?_
  rotate_left
  · intro w hSw; (try dsimp only at hSw); obtain ⟨z0, z1, z2, z3⟩ := hSw; go_simp; (try with_reducible rfl)
  (try simp only [List.getElem_toArray, List.getElem_cons_succ, List.getElem_cons_zero])
  (try simp only [Act.put, List.setIfInBounds_toArray, List.set_cons_zero, List.set_cons_succ])
  refine wpHold_one (k := 2) (by kernel_rfl) rfl (fun K hK => ?_)
  (try simp only [List.getElem_toArray, List.getElem_cons_succ, List.getElem_cons_zero])
  go_simp
  refine (unhide HSG _ bd0).mono ?_
  rintro e xw_1 ⟨rfl, hb_1⟩
  have cc_1 := below_step bd0 hb_1
  have hC_1 : (fun w' : World => w'.cell? ⟨g, 0, none⟩ = some (.slice l.a n l.c) ∧ w'.cell? ⟨g, 1, none⟩ = some (.bool t.s) ∧ w'.cell? ⟨g, 2, none⟩ = some (.slice t.a1 t.n1 t.c1) ∧ w'.cell? ⟨g, 3, none⟩ = some (.slice t.a2 t.n2 t.c2)) xw_1 := unhide HCC _ cc_1
  refine hK.out _ _ hC_1 ?_
  clear hK K
  (try simp only [Act.put, List.setIfInBounds_toArray, List.set_cons_zero, List.set_cons_succ])
  refine wpHold_take (i := 3) (v := ?_) rfl (by kernel_rfl) (by kernel_rfl) (by kernel_rfl) (fun _ _ _ h => h) (Or.inl ⟨by rfl, ?_⟩) hC_1 ?_
  rotate_left
  · intro w hSw; clear hSw; go_simp; (try with_reducible rfl)
  (try simp only [List.getElem_toArray, List.getElem_cons_succ, List.getElem_cons_zero])
  (try simp only [Act.put, List.setIfInBounds_toArray, List.set_cons_zero, List.set_cons_succ])
  refine wpHold_take (i := 4) (v := ?_) rfl (by kernel_rfl) (by kernel_rfl) (by kernel_rfl) (fun _ _ _ h => h) (Or.inl ⟨by rfl, ?_⟩) hC_1 ?_
  rotate_left
  · intro w hSw; clear hSw; go_simp; (try with_reducible rfl)
  (try simp only [List.getElem_toArray, List.getElem_cons_succ, List.getElem_cons_zero])
  (try simp only [Act.put, List.setIfInBounds_toArray, List.set_cons_zero, List.set_cons_succ])
  refine wpHold_take (i := 5) (v := ?_) rfl (by kernel_rfl) (by kernel_rfl) (by kernel_rfl) (fun _ _ _ h => h) (Or.inl ⟨by rfl, ?_⟩) hC_1 ?_
  rotate_left
  · intro w hSw; clear hSw; go_simp; (try with_reducible rfl)
  (try simp only [List.getElem_toArray, List.getElem_cons_succ, List.getElem_cons_zero])
  (try simp only [Act.put, List.setIfInBounds_toArray, List.set_cons_zero, List.set_cons_succ])
  refine wpHold_take (i := 6) (v := ?_) rfl (by kernel_rfl) (by kernel_rfl) (by kernel_rfl) (fun _ _ _ h => h) (Or.inl ⟨by rfl, ?_⟩) hC_1 ?_
  rotate_left
  · intro w hSw; (try dsimp only at hSw); obtain ⟨z0, z1, z2, z3⟩ := hSw; go_simp; (try with_reducible rfl)
  (try simp only [List.getElem_toArray, List.getElem_cons_succ, List.getElem_cons_zero])
  (try simp only [Act.put, List.setIfInBounds_toArray, List.set_cons_zero, List.set_cons_succ])
  refine wpHold_one (k := 7) (by kernel_rfl) rfl (fun K hK => ?_)
  (try simp only [List.getElem_toArray, List.getElem_cons_succ, List.getElem_cons_zero])
  go_simp
  refine (whole_any 1 (by decide) (by decide) _).mono ?_
  rintro e xw_2 ⟨xv_2, rfl, hv_2, hb_2⟩
  have cc_2 := below_step cc_1 hb_2
  have hC_2 : (fun w' : World => w'.cell? ⟨g, 0, none⟩ = some (.slice l.a n l.c) ∧ w'.cell? ⟨g, 1, none⟩ = some (.bool t.s) ∧ w'.cell? ⟨g, 2, none⟩ = some (.slice t.a1 t.n1 t.c1) ∧ w'.cell? ⟨g, 3, none⟩ = some (.slice t.a2 t.n2 t.c2)) xw_2 := unhide HCC _ cc_2
  refine hK.out _ _ hC_2 ?_
  clear hK K
  (try simp only [Act.put, List.setIfInBounds_toArray, List.set_cons_zero, List.set_cons_succ])
  refine wpHold_one (k := 8) (by kernel_rfl) rfl (fun K hK => ?_)
  (try simp only [List.getElem_toArray, List.getElem_cons_succ, List.getElem_cons_zero])
  go_simp
  refine (unhide HCM _ _ cc_2 hv_2).mono ?_
  rintro e xw_3 ⟨rfl, hb_3⟩
  have cc_3 := below_step cc_2 hb_3
  have hC_3 : (fun w' : World => w'.cell? ⟨g, 0, none⟩ = some (.slice l.a n l.c) ∧ w'.cell? ⟨g, 1, none⟩ = some (.bool t.s) ∧ w'.cell? ⟨g, 2, none⟩ = some (.slice t.a1 t.n1 t.c1) ∧ w'.cell? ⟨g, 3, none⟩ = some (.slice t.a2 t.n2 t.c2)) xw_3 := unhide HCC _ cc_3
  refine hK.out _ _ hC_3 ?_
  clear hK K
  (try simp only [Act.put, List.setIfInBounds_toArray, List.set_cons_zero, List.set_cons_succ])
  refine wpHold_take (i := 9) (v := ?_) rfl (by kernel_rfl) (by kernel_rfl) (by kernel_rfl) (fun _ _ _ h => h) (Or.inl ⟨by rfl, ?_⟩) hC_3 ?_
  rotate_left
  · intro w hSw; clear hSw; go_simp; (try with_reducible rfl)
  (try simp only [List.getElem_toArray, List.getElem_cons_succ, List.getElem_cons_zero])
  (try simp only [Act.put, List.setIfInBounds_toArray, List.set_cons_zero, List.set_cons_succ])
  refine wpHold_take (i := 10) (v := ?_) rfl (by kernel_rfl) (by kernel_rfl) (by kernel_rfl) (fun _ _ _ h => h) (Or.inl ⟨by rfl, ?_⟩) hC_3 ?_
  rotate_left
  · intro w hSw; clear hSw; go_simp; (try with_reducible rfl)
  (try simp only [List.getElem_toArray, List.getElem_cons_succ, List.getElem_cons_zero])
  (try simp only [Act.put, List.setIfInBounds_toArray, List.set_cons_zero, List.set_cons_succ])
  refine wpHold_done (by kernel_rfl) ?_ _
  have HB2 := hide (below_step (unhide HB1) cc_3)
  have HX2 := hide ((unhide HX1).keep cc_3)
  have ⟨c0, c1, c2, c3⟩ := unhide HCC _ cc_3
  clear hC0 hC_1 hC_2 hC_3 cc_1 cc_2 cc_3 bd0 hb_1 hb_2 hb_3 hv_2 HB1 HX1 HSG HCM HCC hd
  go_wp2_with fail
  clear c0 c1 c2 c3
  go_loopw [31] (fun vi wr => ∃ i : Nat, vi = .int .i64 (i : Int) ∧ i ≤ n ∧ Below w.heap.size w wr ∧ Below xw_3.heap.size xw_3 wr ∧ scd K.length K i = 0) (fun vi _ => n - (intOf vi).toNat)
  case atStart => exact ⟨0, rfl, Nat.zero_le _, unhide HB2, Below.refl _ _, rfl⟩
  case round =>
    obtain ⟨i, rfl, hi, hb, hb', hz⟩ := hrel
    have HB := hide hb
    have HZ := hide hz
    by_cases hlt : i < n
    · have e1 : (i : Int) < (n : Int) := by omega
      have e0 : (0 : Int) ≤ (i : Int) := by omega
      have hlt' : i < K.length := by have := unhide HN; omega
      obtain ⟨bk, ok, m, hla, hbk, k0, hA⟩ := ((unhide HX2).2.1.below hb').at hlt'
      have hmn := acts_len hA
      have HA := hide hA
      have HB' := hide hb'
      have hna := (unhide HSM).na i hlt'
      obtain ⟨na, hna'⟩ : ∃ x, m.n = x := ⟨_, rfl⟩
      rw [hna'] at k0 hmn
      rw [← hmn] at hna
      have HMN := hide hmn
      have HNA := hide hna'
      have HLT := hide hlt'
      clear hb hb' hz hA hmn hna'
      rw [hla]
      go_wp2_with fail
      refine (fits_any (na : Int) wr (by omega) (by omega)).mono ?_
      rintro e w2 ⟨(⟨hx, rfl⟩ | ⟨hx, rfl⟩), hb2⟩
      rotate_left
      · have HE2 : Hid (mcode K b = 4) := by
          show mcode K b = 4
          rw [unhide HE]
          refine scd_end (unhide HLT) (unhide HZ) ?_ (by decide)
          unfold stc
          rw [if_neg (fun x => hx ⟨by have := unhide HMN; omega, by have := unhide HMN; omega⟩)]
        have HB2' := hide (below_step (unhide HB) hb2)
        clear hx hb2 k0
        go_wp2
        go_ret
        exact ⟨by rw [unhide HE2]; rfl, unhide HB2'⟩
      have HFA : Hid (1 ≤ (K[i]!).length ∧ (K[i]!).length ≤ 8) := ⟨by have := unhide HMN; have := hx.1; omega, by have := unhide HMN; have := hx.2; omega⟩
      have hna8 : na ≤ 8 := by have := hx.2; omega
      have HB2' := hide (below_step (unhide HB) hb2)
      have HA2 := hide ((unhide HA).below hb2)
      have HB3 := hide (below_step (unhide HB') hb2)
      clear hx hb2 k0 HA HB HB'
      go_wp2_with fail
      go_loopw [42] (fun vj wv => ∃ j : Nat, vj = .int .i64 (j : Int) ∧ j ≤ na ∧ Below w.heap.size w wv ∧ Below xw_3.heap.size xw_3 wv ∧ Below w2.heap.size w2 wv ∧ acd K.length K[i]! j = 0) (fun vj _ => na - (intOf vj).toNat)
      case atStart => exact ⟨0, rfl, Nat.zero_le _, unhide HB2', unhide HB3, Below.refl _ _, rfl⟩
      case round =>
        obtain ⟨j, rfl, hj, hb, hb', hb2, hzj⟩ := hrel
        have HBj := hide hb
        have HBj' := hide hb'
        have HZj := hide hzj
        by_cases hltj : j < na
        · have f1 : (j : Int) < (na : Int) := by omega
          have f0 : (0 : Int) ≤ (j : Int) := by omega
          have hltj' : j < (K[i]!).length := by have := unhide HMN; omega
          obtain ⟨ba, oa, ta, la, hma, hba, ⟨a0, a1, a2, a3⟩, hAct⟩ := ((unhide HA2).below hb2).at hltj'
          have hln2 := law_len hAct.2
          have bA := alloc_below wr (.cells #[.bool ta.s, .slice ta.a1 ta.n1 ta.c1, .slice ta.a2 ta.n2 ta.c2, .slice la.a la.n la.c] 67)
          have HBx := hide (below_step (unhide HBj) bA)
          have HBx' := hide (below_step (unhide HBj') bA)
          have HBx2 := hide (below_step hb2 bA)
          have hnew := heap_alloc_new wr (.cells #[.bool ta.s, .slice ta.a1 ta.n1 ta.c1, .slice ta.a2 ta.n2 ta.c2, .slice la.a la.n la.c] 67)
          have hlaw := hAct.2.below bA
          obtain ⟨W2, hW2⟩ : ∃ W, wr.alloc (.cells #[.bool ta.s, .slice ta.a1 ta.n1 ta.c1, .slice ta.a2 ta.n2 ta.c2, .slice la.a la.n la.c] 67) = W := ⟨_, rfl⟩
          obtain ⟨bx, hbx⟩ : ∃ x, wr.heap.size = x := ⟨_, rfl⟩
          rw [hW2] at HBx HBx' HBx2 hnew hlaw
          rw [hbx] at hnew
          have q0 : W2.cell? ⟨bx, 3, none⟩ = some (.slice la.a la.n la.c) := by simp [World.cell?, hnew]
          have q1 : W2.cell? ⟨bx, 0, none⟩ = some (.bool ta.s) := by simp [World.cell?, hnew]
          have q2 : W2.cell? ⟨bx, 1, none⟩ = some (.slice ta.a1 ta.n1 ta.c1) := by simp [World.cell?, hnew]
          have q3 : W2.cell? ⟨bx, 2, none⟩ = some (.slice ta.a2 ta.n2 ta.c2) := by simp [World.cell?, hnew]
          have HSH := hide (cshares_any la.val _ n W2 hlaw (by omega) (fun u hu => (unhide HSM).rp i j u (unhide HLT) hltj' hu) ((unhide HSM).nn i j (unhide HLT) hltj'))
          have HLJ := hide hltj'
          rw [hma]
          clear hb hb' hb2 hzj hAct bA hnew hlaw hln2
          go_wp2_with fail
          refine (unhide HSH).mono ?_
          rintro e w4 ⟨rfl, hb4⟩
          have HB4 := hide (below_step (unhide HBx) hb4)
          have HB4' := hide (below_step (unhide HBx') hb4)
          have HB42 := hide (below_step (unhide HBx2) hb4)
          obtain ⟨k, hk⟩ : ∃ k, shc n ((K[i]!)[j]!).2 = k := ⟨_, rfl⟩
          rw [hk]
          have HK := hide hk
          clear hk hb4 hW2 hbx q0 q1 q2 q3 a0 a1 a2 a3 HSH
          by_cases hk0 : k = 0
          · subst hk0
            have e5 : errV 0 = .nilIface := rfl
            rw [e5]
            go_wp2_with fail
            refine ⟨⟨j + 1, by go_num, hltj, unhide HB4, unhide HB4', unhide HB42, ?_⟩, by simp [intOf]; omega⟩
            show (if acd K.length K[i]! j = 0 then _ else _) = _
            rw [if_pos (unhide HZj), unhide HN]; exact unhide HK
          · have e5 : errV k = .iface 76 (.int .i64 k) := by unfold errV; rw [if_neg hk0]
            rw [e5]
            have HE2 : Hid (mcode K b = k) := by
              show mcode K b = k
              rw [unhide HE]
              refine scd_end (unhide HLT) (unhide HZ) ?_ hk0
              unfold stc
              rw [if_pos (unhide HFA)]
              exact acd_end (unhide HLJ) (unhide HZj) (by rw [unhide HN]; exact unhide HK) hk0
            have HE5 := hide e5
            clear hk0 e5
            go_wp2
            go_ret
            exact ⟨by rw [unhide HE2]; exact (congrArg Ending.returned (unhide HE5)).symm, unhide HB4⟩
        · obtain rfl : j = na := by omega
          have f1 : ¬ (j : Int) < (j : Int) := by omega
          clear hb hb' hb2 hzj
          go_wp2_with fail
          refine ⟨⟨i + 1, by go_num, hlt, unhide HBj, unhide HBj', ?_⟩, by simp [intOf]; omega⟩
          show (if scd K.length K i = 0 then _ else _) = _
          rw [if_pos (unhide HZ)]
          unfold stc
          rw [if_pos (unhide HFA), ← unhide HMN]; exact unhide HZj
    · obtain rfl : i = n := by omega
      have e1 : ¬ (i : Int) < (i : Int) := by omega
      clear hb hb' hz
      go_wp2
      go_ret
      exact ⟨by rw [unhide HE]; have := unhide HZ; rw [← unhide HN] at this; rw [this]; rfl, unhide HB⟩

end Go.Proofs.YtjlohghknejjoaaGreatDoor
