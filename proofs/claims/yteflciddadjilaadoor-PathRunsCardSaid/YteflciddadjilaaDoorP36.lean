/- The document's Run: who goes ahead; what it keeps. -/
import Derived.Test.YteflciddadjilaaDoorP34
namespace Go.Proofs.YteflciddadjilaaDoor
open Go.RowKit Go.Sort Sim

set_option maxHeartbeats 4000000 in
set_option maxRecDepth 100000 in
theorem better_any (a : Option Addr) (n c : Nat) (f : Nat → T3) (G r i k : Nat) (lf : Nat → Nat) (w : World) (ha : TRow w a n c f) (hg : Good n f) (hO : OwnI w G n (fun j => (lf j : Int))) (hr1 : 1 ≤ r) (hr6 : r ≤ 6) (hki : k < i) (hin : i < n) :
    Calls Tryd.prog 25 #[.slice a n c, .slice (some ⟨G, 0, none⟩) n n, .int .i64 (r : Int), .int .i64 (i : Int), .int .i64 (k : Int)] w fun e w' => e = .returned (.bool (decide (key (qOf n f r) lf i < key (qOf n f r) lf k))) ∧ Below w.heap.size w w' := by
  obtain ⟨b, o, rfl, hbl, hc⟩ := ha.2.2 (by omega)
  have ⟨i0, i1, i2⟩ := hc i hin
  have ⟨k0, k1, k2⟩ := hc k (by omega)
  have g0 := hO.cell hin
  have g1 := hO.cell (j := k) (by omega)
  have ci := hg.cls i hin
  have ck := hg.cls k (by omega)
  have si := hg.size i hin
  have sk := hg.size k (by omega)
  have hn60 := hg.few
  have hac := ha.1
  have hac2 := ha.2.1
  have HK : Hid (∀ x y : Int, (r = 3 → x = (f i).2.1 ∧ y = (f k).2.1) → (r = 4 ∨ r = 5 → x = (f i).2.2 ∧ y = (f k).2.2) → (r = 6 → x = lf i ∧ y = lf k) → (r = 1 → x = 0 ∧ y = 0) → r ≠ 2 → decide (key (qOf n f r) lf i < key (qOf n f r) lf k) = decide (x < y)) := fun x y h3 h45 h6 h1 h2 => by
    apply decide_eq_decide.2
    unfold key
    simp only [qOf]
    by_cases r1 : r = 1
    · have := h1 r1; simp only [r1, if_true]; omega
    · by_cases r3 : r = 3
      · have := h3 r3; simp only [r3]; simp; omega
      · by_cases r6 : r = 6
        · have := h6 r6; simp only [r6]; simp; omega
        · have := h45 (by omega)
          simp only [r1, r3, r6, h2, if_false]; omega
  obtain ⟨⟨x0, x1, x2⟩, hfi⟩ : ∃ t, f i = t := ⟨_, rfl⟩
  obtain ⟨⟨y0, y1, y2⟩, hfk⟩ : ∃ t, f k = t := ⟨_, rfl⟩
  rw [hfi] at i0 i1 i2 ci si HK
  rw [hfk] at k0 k1 k2 ck sk HK
  simp only at i0 i1 i2 k0 k1 k2 ci si ck sk
  obtain ⟨u, hu⟩ : ∃ u : Int, (lf i : Int) = u := ⟨_, rfl⟩
  obtain ⟨v, hv⟩ : ∃ u : Int, (lf k : Int) = u := ⟨_, rfl⟩
  rw [hu] at g0 HK
  rw [hv] at g1 HK
  have e0 : (0 : Int) ≤ (i : Int) := by omega
  have e1 : (i : Int) < (n : Int) := by omega
  have e2 : (0 : Int) ≤ (k : Int) := by omega
  have e3 : (k : Int) < (n : Int) := by omega
  have e4 : ¬ i < k := by omega
  have e5 : (k : Int) < (i : Int) := by omega
  have HK2 : Hid (r = 2 → decide (key (qOf n f r) lf i < key (qOf n f r) lf k) = true) := fun h2 => by
    apply decide_eq_true
    unfold key
    simp only [qOf, h2]
    simp
    omega
  clear hc hO ha hg hfi hfk hu hv
  generalize decide (key (qOf n f r) lf i < key (qOf n f r) lf k) = s at *
  obtain rfl | rfl | rfl | rfl | rfl | rfl : r = 1 ∨ r = 2 ∨ r = 3 ∨ r = 4 ∨ r = 5 ∨ r = 6 := by omega
  · have hs := unhide HK 0 0 (by simp) (by simp) (by simp) (by simp) (by decide)
    have hs' : s = false := by rw [hs]; decide
    subst hs'
    clear hs HK HK2
    go_enter Tryd.func25, Tryd.ntmps25
    go_wp2_with fail
    go_ret
    exact ⟨rfl, by first | exact Below.refl _ _ | exact drew_below _ | exact below_drewN _ _⟩
  · have hs' : s = true := unhide HK2 rfl
    subst hs'
    clear HK HK2
    go_enter Tryd.func25, Tryd.ntmps25
    go_wp2_with fail
    go_ret
    exact ⟨rfl, by first | exact Below.refl _ _ | exact drew_below _ | exact below_drewN _ _⟩
  · have hs := unhide HK x1 y1 (by simp) (by simp) (by simp) (by simp) (by decide)
    clear HK HK2
    by_cases hxy : x1 < y1
    · have hs' : s = true := by rw [hs]; exact decide_eq_true hxy
      subst hs'
      clear hs
      go_enter Tryd.func25, Tryd.ntmps25
      go_wp2_with fail
      go_quiet (fail)
      go_wp2
      all_goals
        go_ret
        exact ⟨by first | rfl | (have e9 : decide (i < k) = false := decide_eq_false (by omega); rw [e9]; rfl) | (have e9 : decide (x1 < y1) = false := decide_eq_false (by omega); rw [e9]; rfl) | (have e9 : decide (x2 < y2) = false := decide_eq_false (by omega); rw [e9]; rfl) | (have e9 : decide (u < v) = false := decide_eq_false (by omega); rw [e9]; rfl), by first | exact Below.refl _ _ | exact drew_below _ | exact below_drewN _ _⟩
    · have hs' : s = false := by rw [hs]; exact decide_eq_false hxy
      subst hs'
      clear hs
      go_enter Tryd.func25, Tryd.ntmps25
      go_wp2_with fail
      go_quiet (fail)
      go_wp2
      all_goals
        go_ret
        exact ⟨by first | rfl | (have e9 : decide (i < k) = false := decide_eq_false (by omega); rw [e9]; rfl) | (have e9 : decide (x1 < y1) = false := decide_eq_false (by omega); rw [e9]; rfl) | (have e9 : decide (x2 < y2) = false := decide_eq_false (by omega); rw [e9]; rfl) | (have e9 : decide (u < v) = false := decide_eq_false (by omega); rw [e9]; rfl), by first | exact Below.refl _ _ | exact drew_below _ | exact below_drewN _ _⟩
  · have hs := unhide HK x2 y2 (by simp) (by simp) (by simp) (by simp) (by decide)
    clear HK HK2
    by_cases hxy : x2 < y2
    · have hs' : s = true := by rw [hs]; exact decide_eq_true hxy
      subst hs'
      clear hs
      go_enter Tryd.func25, Tryd.ntmps25
      go_wp2_with fail
      go_quiet (fail)
      go_wp2
      all_goals
        go_ret
        exact ⟨by first | rfl | (have e9 : decide (i < k) = false := decide_eq_false (by omega); rw [e9]; rfl) | (have e9 : decide (x1 < y1) = false := decide_eq_false (by omega); rw [e9]; rfl) | (have e9 : decide (x2 < y2) = false := decide_eq_false (by omega); rw [e9]; rfl) | (have e9 : decide (u < v) = false := decide_eq_false (by omega); rw [e9]; rfl), by first | exact Below.refl _ _ | exact drew_below _ | exact below_drewN _ _⟩
    · have hs' : s = false := by rw [hs]; exact decide_eq_false hxy
      subst hs'
      clear hs
      go_enter Tryd.func25, Tryd.ntmps25
      go_wp2_with fail
      go_quiet (fail)
      go_wp2
      all_goals
        go_ret
        exact ⟨by first | rfl | (have e9 : decide (i < k) = false := decide_eq_false (by omega); rw [e9]; rfl) | (have e9 : decide (x1 < y1) = false := decide_eq_false (by omega); rw [e9]; rfl) | (have e9 : decide (x2 < y2) = false := decide_eq_false (by omega); rw [e9]; rfl) | (have e9 : decide (u < v) = false := decide_eq_false (by omega); rw [e9]; rfl), by first | exact Below.refl _ _ | exact drew_below _ | exact below_drewN _ _⟩
  · have hs := unhide HK x2 y2 (by simp) (by simp) (by simp) (by simp) (by decide)
    clear HK HK2
    by_cases hxy : x2 < y2
    · have hs' : s = true := by rw [hs]; exact decide_eq_true hxy
      subst hs'
      clear hs
      go_enter Tryd.func25, Tryd.ntmps25
      go_wp2_with fail
      go_quiet (fail)
      go_wp2
      all_goals
        go_ret
        exact ⟨by first | rfl | (have e9 : decide (i < k) = false := decide_eq_false (by omega); rw [e9]; rfl) | (have e9 : decide (x1 < y1) = false := decide_eq_false (by omega); rw [e9]; rfl) | (have e9 : decide (x2 < y2) = false := decide_eq_false (by omega); rw [e9]; rfl) | (have e9 : decide (u < v) = false := decide_eq_false (by omega); rw [e9]; rfl), by first | exact Below.refl _ _ | exact drew_below _ | exact below_drewN _ _⟩
    · have hs' : s = false := by rw [hs]; exact decide_eq_false hxy
      subst hs'
      clear hs
      go_enter Tryd.func25, Tryd.ntmps25
      go_wp2_with fail
      go_quiet (fail)
      go_wp2
      all_goals
        go_ret
        exact ⟨by first | rfl | (have e9 : decide (i < k) = false := decide_eq_false (by omega); rw [e9]; rfl) | (have e9 : decide (x1 < y1) = false := decide_eq_false (by omega); rw [e9]; rfl) | (have e9 : decide (x2 < y2) = false := decide_eq_false (by omega); rw [e9]; rfl) | (have e9 : decide (u < v) = false := decide_eq_false (by omega); rw [e9]; rfl), by first | exact Below.refl _ _ | exact drew_below _ | exact below_drewN _ _⟩
  · have hs := unhide HK u v (by simp) (by simp) (by simp) (by simp) (by decide)
    clear HK HK2
    by_cases hxy : u < v
    · have hs' : s = true := by rw [hs]; exact decide_eq_true hxy
      subst hs'
      clear hs
      go_enter Tryd.func25, Tryd.ntmps25
      go_wp2_with fail
      go_quiet (fail)
      go_wp2
      all_goals
        go_ret
        exact ⟨by first | rfl | (have e9 : decide (i < k) = false := decide_eq_false (by omega); rw [e9]; rfl) | (have e9 : decide (x1 < y1) = false := decide_eq_false (by omega); rw [e9]; rfl) | (have e9 : decide (x2 < y2) = false := decide_eq_false (by omega); rw [e9]; rfl) | (have e9 : decide (u < v) = false := decide_eq_false (by omega); rw [e9]; rfl), by first | exact Below.refl _ _ | exact drew_below _ | exact below_drewN _ _⟩
    · have hs' : s = false := by rw [hs]; exact decide_eq_false hxy
      subst hs'
      clear hs
      go_enter Tryd.func25, Tryd.ntmps25
      go_wp2_with fail
      go_quiet (fail)
      go_wp2
      all_goals
        go_ret
        exact ⟨by first | rfl | (have e9 : decide (i < k) = false := decide_eq_false (by omega); rw [e9]; rfl) | (have e9 : decide (x1 < y1) = false := decide_eq_false (by omega); rw [e9]; rfl) | (have e9 : decide (x2 < y2) = false := decide_eq_false (by omega); rw [e9]; rfl) | (have e9 : decide (u < v) = false := decide_eq_false (by omega); rw [e9]; rfl), by first | exact Below.refl _ _ | exact drew_below _ | exact below_drewN _ _⟩

/-- The next one who comes behind t, of the first k; -1: nobody. -/
def nx (A : Nat → Int) (t : Int) : Nat → Int
  | 0 => -1
  | k + 1 => if t < A k ∧ (nx A t k < 0 ∨ A k < nx A t k) then A k else nx A t k
theorem nx_spec (A : Nat → Int) (t : Int) (ht : 0 ≤ t) : ∀ k, (nx A t k = -1 ∧ ∀ i, i < k → A i ≤ t) ∨ (t < nx A t k ∧ (∃ i, i < k ∧ A i = nx A t k) ∧ ∀ i, i < k → t < A i → nx A t k ≤ A i)
  | 0 => Or.inl ⟨rfl, fun i hi => absurd hi (Nat.not_lt_zero _)⟩
  | k + 1 => by
    have ih := nx_spec A t ht k
    have e : nx A t (k + 1) = if t < A k ∧ (nx A t k < 0 ∨ A k < nx A t k) then A k else nx A t k := rfl
    rw [e]
    by_cases c : t < A k ∧ (nx A t k < 0 ∨ A k < nx A t k)
    · rw [if_pos c]
      refine Or.inr ⟨c.1, ⟨k, Nat.lt_succ_self k, rfl⟩, fun i hi hl => ?_⟩
      rcases Nat.lt_or_ge i k with h | h
      · rcases ih with ⟨_, h2⟩ | ⟨h1, _, h3⟩
        · have := h2 i h; omega
        · have := h3 i h hl; omega
      · rw [show i = k by omega]; exact Int.le_refl _
    · rw [if_neg c]
      rcases ih with ⟨h1, h2⟩ | ⟨h1, ⟨i, hi, e⟩, h3⟩
      · refine Or.inl ⟨h1, fun i hi => ?_⟩
        rcases Nat.lt_or_ge i k with h | h
        · exact h2 i h
        · rw [show i = k by omega]; omega
      · refine Or.inr ⟨h1, ⟨i, by omega, e⟩, fun i hi hl => ?_⟩
        rcases Nat.lt_or_ge i k with h | h
        · exact h3 i h hl
        · rw [show i = k by omega] at hl ⊢; omega
/-- A choice as a number. -/
def ob : Option Nat → Int
  | none => -1
  | some j => (j : Int)

/-- What the document's Run keeps. -/
structure RInv (w wr : World) (n : Nat) (f : Nat → T3) (r G t : Nat) (onv : Int) (v : Value) : Prop where
  bl : Below w.heap.size w wr
  gl : w.heap.size ≤ G
  left : OwnI wr G n (fun j => ((sim (qOf n f r) t).lf j : Int))
  own : OwnT 47 wr w.heap.size v (pcsT (sim (qOf n f r) t).ps)
  on : (onv = -1 ∧ (sim (qOf n f r) t).ps = [] ∧ (sim (qOf n f r) t).on = none) ∨ ∃ (j : Nat) (qs : List Pc) (a e : Nat), onv = (j : Int) ∧ j < n ∧ (sim (qOf n f r) t).ps = qs ++ [(j, a, e)] ∧ (0 < (sim (qOf n f r) t).lf j → e = t ∧ (sim (qOf n f r) t).on = some j) ∧ (∀ k, (sim (qOf n f r) t).on = some k → k = j)
  fits : t + nsum (sim (qOf n f r) t).lf n ≤ 1000000000 + nsum (qOf n f r).S n
theorem RInv.keep {w wr w' : World} {n : Nat} {f : Nat → T3} {r G t : Nat} {onv : Int} {v : Value} (h : RInv w wr n f r G t onv v) (hb : Below wr.heap.size wr w') : RInv w w' n f r G t onv v :=
  ⟨below_step h.bl hb, h.gl, h.left.keep hb, h.own.keep hb, h.on, h.fits⟩
theorem RInv.time {w wr : World} {n : Nat} {f : Nat → T3} {r G t : Nat} {onv : Int} {v : Value} (h : RInv w wr n f r G t onv v) (hg : Good n f) : t ≤ 61000000000 := by
  have := h.fits
  have := sizes_fit hg r
  omega
theorem RInv.lf_le {w wr : World} {n : Nat} {f : Nat → T3} {r G t : Nat} {onv : Int} {v : Value} (h : RInv w wr n f r G t onv v) (hg : Good n f) {j : Nat} (hj : j < n) : t + (sim (qOf n f r) t).lf j ≤ 61000000000 := by
  have := h.fits
  have := sizes_fit hg r
  have := nsum_ge (f := (sim (qOf n f r) t).lf) hj
  omega

/-- Nobody is there: on to whoever comes. -/
theorem RInv.idle {w wr : World} {n : Nat} {f : Nat → T3} {r G t : Nat} {onv : Int} {v : Value} (h : RInv w wr n f r G t onv v) (hg : Good n f) (hch : choice (qOf n f r) (sim (qOf n f r) t) t = none) {x : Nat} (hx : t < x) (hA : ∀ i, i < n → (t : Int) < (f i).1 → (x : Int) ≤ (f i).1) (hex : ∃ i, i < n ∧ (f i).1 = (x : Int)) : RInv w wr n f r G x onv v := by
  obtain ⟨d, rfl⟩ := Nat.le.dest (Nat.le_of_lt hx)
  have hl := none_left hch
  have h0 : ∀ k, (sim (qOf n f r) t).on = some k → (sim (qOf n f r) t).lf k = 0 := fun k hk => hl k (on_lt t k hk) (by have := (fresh2 (q := qOf n f r) t).2 k hk; omega)
  have e := sim_idle (q := qOf n f r) (t := t) hl (fun j hj _ => h0 j hj) d (by omega) (fun i hi ha => by
    have hi' : i < n := hi
    have h1 : (f i).1.toNat < t + d := ha
    show (f i).1.toNat ≤ t
    have h2 := hA i hi'
    have h3 := (hg.at0 i hi').1
    omega)
  obtain ⟨i, hi, ei⟩ := hex
  have h1 := (hg.at0 i hi).2
  have h2 : cnt (qOf n f r) t + nsum (sim (qOf n f r) t).lf n = nsum (qOf n f r).S n := cnt_lf (qOf n f r) t
  refine ⟨h.bl, h.gl, by rw [e]; exact h.left, by rw [e]; exact h.own, ?_, by rw [e]; show t + d + nsum (sim (qOf n f r) t).lf n ≤ _; omega⟩
  rw [e]
  rcases h.on with ⟨a1, a2, a3⟩ | ⟨j, qs, a, e', b1, b2, b3, b4, b5⟩
  · exact Or.inl ⟨a1, a2, rfl⟩
  · refine Or.inr ⟨j, qs, a, e', b1, b2, b3, fun hp => ?_, fun k hk => by cases hk⟩
    have hp' : 0 < (sim (qOf n f r) t).lf j := hp
    have := h0 j (b4 hp').2
    omega
/-- A job is served for d seconds. -/
theorem RInv.serve {w wr w' : World} {n : Nat} {f : Nat → T3} {r G t j d : Nat} {onv : Int} {v v' : Value} (h : RInv w wr n f r G t onv v) (hch : choice (qOf n f r) (sim (qOf n f r) t) t = some j) (hd0 : 0 < d) (hd : d ≤ (sim (qOf n f r) t).lf j) (hA : ∀ i, i < n → (t : Int) < (f i).1 → ((t + d : Nat) : Int) ≤ (f i).1)
    (bl : Below w.heap.size w w') (left : OwnI w' G n (updI (fun j => ((sim (qOf n f r) t).lf j : Int)) j (((sim (qOf n f r) t).lf j : Int) - (d : Int)))) (own : OwnT 47 w' w.heap.size v' (joinT (pcsT (sim (qOf n f r) t).ps) ((j : Int), (t : Int), ((t + d : Nat) : Int)))) : RInv w w' n f r G (t + d) (j : Int) v' := by
  have hjn : j < n := (left_pos hch).2
  have e := sim_serve (q := qOf n f r) hch d hd hd0 (Or.inr fun i hi hlt => by
    have hi' : i < n := hi
    have h1 : (f i).1.toNat < t + d := hlt
    show (f i).1.toNat ≤ t
    have h2 := hA i hi'
    omega)
  refine ⟨bl, h.gl, ?_, ?_, Or.inr ?_, ?_⟩
  · refine left.congr fun i hi => ?_
    rw [e]
    unfold updI upd
    simp only
    split <;> omega
  · rw [e]
    have := joinT_pcsT (sim (qOf n f r) t).ps (j, t, t + d)
    rw [← this]
    exact own
  · rw [e]
    have hj : ∃ qs a, joinP (sim (qOf n f r) t).ps (j, t, t + d) = qs ++ [(j, a, t + d)] := by
      rcases snoc_cases (sim (qOf n f r) t).ps with h1 | ⟨qs, l, h1⟩
      · rw [h1, joinP_nil]; exact ⟨[], t, rfl⟩
      · rw [h1, joinP_last]
        split
        · next hc => exact ⟨qs, l.2.1, by rw [hc.1]⟩
        · exact ⟨qs ++ [l], t, rfl⟩
    obtain ⟨qs, a, hq⟩ := hj
    exact ⟨j, qs, a, t + d, rfl, hjn, hq, fun _ => ⟨rfl, rfl⟩, fun k hk => (Option.some.inj hk).symm⟩
  · rw [e]
    have := nsum_one (f := upd (sim (qOf n f r) t).lf j ((sim (qOf n f r) t).lf j - d)) (g := (sim (qOf n f r) t).lf) hjn (fun i _ he => upd_off _ _ he)
    rw [upd_at] at this
    have := h.fits
    show t + d + nsum (upd _ _ _) n ≤ _
    omega

theorem OwnT.form {T : TypeId} {w : World} {B : Nat} {v : Value} {ps : List T3} (h : OwnT T w B v ps) (hp : 0 < ps.length) : ∃ g cap, v = .slice (some ⟨g, 0, none⟩) ps.length cap ∧ ps.length ≤ cap ∧ cap ≤ 9223372036854775807 ∧ B ≤ g ∧ g < w.heap.size ∧ (∀ j, w.frozen? ⟨g, j, none⟩ = false) ∧
    (∀ j, j < ps.length → w.cell? ⟨g, j * 3, none⟩ = some (.int .i64 (ps[j]!).1) ∧ w.cell? ⟨g, j * 3 + 1, none⟩ = some (.int .i64 (ps[j]!).2.1) ∧ w.cell? ⟨g, j * 3 + 2, none⟩ = some (.int .i64 (ps[j]!).2.2)) := by
  obtain ⟨h1, ⟨rfl, h2⟩ | ⟨g, cap, cur, rfl, hb, hh, hc1, hc2, hs, ht⟩⟩ := h
  · omega
  · refine ⟨g, cap, rfl, hc1, by unfold maxLen at hc2; exact hc2, hb, (Array.getElem?_eq_some_iff.1 hh).1, fun j => by simp [World.frozen?, hh], fun j hj => ?_⟩
    have cellk : ∀ k, k < 3 → w.cell? ⟨g, j * 3 + k, none⟩ = (ps[j]!).cells[k]? := fun k hk => by
      simp only [World.cell?, hh]
      have e : (cur.toList.take (ps.length * 3))[j * 3 + k]? = (pcells ps)[j * 3 + k]? := by rw [ht]
      rw [List.getElem?_take_of_lt (by omega), pcells_get ps j k (by omega) hk] at e
      simpa using e
    exact ⟨cellk 0 (by decide), cellk 1 (by decide), cellk 2 (by decide)⟩
theorem OwnT.last {T : TypeId} {w : World} {B g cap : Nat} {ps : List T3} {l : T3} {z : Int} (h : OwnT T w B (.slice (some ⟨g, 0, none⟩) (ps ++ [l]).length cap) (ps ++ [l])) :
    OwnT T (w.setCell ⟨g, ps.length * 3 + 2, none⟩ (.int .i64 z)) B (.slice (some ⟨g, 0, none⟩) (ps ++ [l]).length cap) (ps ++ [(l.1, l.2.1, z)]) := by
  obtain ⟨h1, ⟨e, _⟩ | ⟨g', cap', cur, e, hb, hh, hc1, hc2, hs, ht⟩⟩ := h
  · cases e
  · injection e with e1 e2 e3
    obtain rfl : g = g' := by injection e1 with e1; injection e1
    subst e3
    have hl1 : (ps ++ [l]).length = ps.length + 1 := by simp
    have hl2 : (ps ++ [(l.1, l.2.1, z)]).length = ps.length + 1 := by simp
    refine ⟨pcells_length _, Or.inr ⟨g, cap, cur.setIfInBounds (ps.length * 3 + 2) (.int .i64 z), by rw [hl1, hl2], hb, ?_, by rw [hl2]; omega, hc2, by simpa using hs, ?_⟩⟩
    · rw [setCell_eq]
      simp only [mapBlock, Array.getElem?_modify, hh, if_true, Option.map_some, onCells]
    · rw [Array.toList_setIfInBounds, List.take_set, hl2, ← hl1, ht, pcells_append, pcells_append, pcells_one, pcells_one, List.set_append_right _ _ (by rw [pcells_length]; omega), pcells_length, show ps.length * 3 + 2 - ps.length * 3 = 2 by omega]
      rfl

/-- Another block changes. -/
theorem OwnT.other {T : TypeId} {w : World} {B : Nat} {v : Value} {ps : List T3} (h : OwnT T w B v ps) {G n : Nat} {lf : Nat → Int} (hO : OwnI w G n lf) (hT : T ≠ 3) (p : Nat) (x : Value) : OwnT T (w.setCell ⟨G, p, none⟩ x) B v ps := by
  refine ⟨h.1, ?_⟩
  rcases h.2 with h | ⟨g', cap, cur, hv, hb, hh, h1⟩
  · exact Or.inl h
  · refine Or.inr ⟨g', cap, cur, hv, hb, ?_, h1⟩
    rw [Below.heap_setCell _ _ _ _ (fun e => ?_)]
    · exact hh
    · have e' : g' = G := e
      unfold OwnI at hO
      rw [← e', hh] at hO
      injection hO with h3
      injection h3 with _ h4
      exact hT h4
theorem OwnT.apart {T : TypeId} {w : World} {B : Nat} {v : Value} {ps : List T3} (h : OwnT T w B v ps) {G n : Nat} {lf : Nat → Int} (hO : OwnI w G n lf) (hT : T ≠ 3) : v.ownBlock ≠ some G := by
  intro hk
  rcases h.2 with ⟨rfl, _⟩ | ⟨g, cap, cur, rfl, hb, hh, _⟩
  · cases hk
  · obtain rfl : g = G := Option.some.inj hk
    unfold OwnI at hO
    rw [hh] at hO
    injection hO with h3
    injection h3 with _ h4
    exact hT h4
theorem pcsT_snoc (qs : List Pc) (l : Pc) : pcsT (qs ++ [l]) = pcsT qs ++ [pcT l] := by simp [pcsT]
end Go.Proofs.YteflciddadjilaaDoor
