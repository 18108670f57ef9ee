/- The document's Lawler. -/
import Derived.Test.YtmpigipeajdgcaaDoorL34
import Derived.Test.YtmpigipeajdgcaaDoorL20
namespace Go.Proofs.YtmpigipeajdgcaaDoor
open Go.RowKit Go.Sort

def rok (R : Nat → Nat → Int) (P : Nat → Bool) (i q : Nat) : Nat → Bool
  | 0 => true
  | j + 1 => rok R P i q j && (!decide (R q j = (i : Int)) || P q)
def mr (R : Nat → Nat → Int) (ln : Nat → Nat) (P : Nat → Bool) (i : Nat) : Nat → Bool
  | 0 => !P i
  | q + 1 => mr R ln P i q && rok R P i q (ln q)
theorem rok_true {R : Nat → Nat → Int} {P : Nat → Bool} {i q : Nat} : ∀ j, rok R P i q j = true ↔ ∀ p, p < j → R q p ≠ (i : Int) ∨ P q = true
  | 0 => ⟨fun _ p hp => absurd hp (Nat.not_lt_zero _), fun _ => rfl⟩
  | j + 1 => by
    have e : rok R P i q (j + 1) = (rok R P i q j && (!decide (R q j = (i : Int)) || P q)) := rfl
    rw [e, Bool.and_eq_true, rok_true j]
    constructor
    · rintro ⟨h1, h2⟩ p hp
      rcases Nat.lt_or_ge p j with c | c
      · exact h1 p c
      · rw [show p = j by omega]
        simpa using h2
    · intro h
      refine ⟨fun p hp => h p (by omega), ?_⟩
      have := h j (by omega)
      simpa using this
theorem mr_true {R : Nat → Nat → Int} {ln : Nat → Nat} {P : Nat → Bool} {i : Nat} : ∀ q, mr R ln P i q = true ↔ P i = false ∧ ∀ p, p < q → rok R P i p (ln p) = true
  | 0 => by
    show (!P i) = true ↔ _
    constructor
    · intro h; exact ⟨by simpa using h, fun p hp => absurd hp (Nat.not_lt_zero _)⟩
    · intro h; rw [h.1]; rfl
  | q + 1 => by
    have e : mr R ln P i (q + 1) = (mr R ln P i q && rok R P i q (ln q)) := rfl
    rw [e, Bool.and_eq_true, mr_true q]
    constructor
    · rintro ⟨⟨h0, h1⟩, h2⟩
      refine ⟨h0, fun p hp => ?_⟩
      rcases Nat.lt_or_ge p q with c | c
      · exact h1 p c
      · rw [show p = q by omega]; exact h2
    · rintro ⟨h0, h1⟩
      exact ⟨⟨h0, fun p hp => h1 p (by omega)⟩, h1 q (by omega)⟩
theorem fr_mr {n : Nat} {f : Nat → T3} {R : Nat → Nat → Int} {ln : Nat → Nat} {P : Nat → Bool} {i : Nat} : freV P ((lw n f R ln).bh P) i = mr R ln P i n := by
  rw [Bool.eq_iff_iff, mr_true]
  unfold freV
  rw [Bool.and_eq_true, decide_eq_true_iff]
  refine and_congr (by simp) ?_
  constructor
  · intro h p hp
    refine (rok_true _).2 fun j hj => ?_
    cases hP : P p with
    | true => exact Or.inr rfl
    | false =>
      refine Or.inl fun hR => ?_
      have hz := Lin.usum_zero (g := fun q => Lin.cnt (R q) i (ln q)) (P := P) (fun q _ => (Lin.cnt_bd _ _ _).1) h p hp hP
      have := Lin.cnt_pos hj hR
      omega
  · intro h
    refine Lin.usum_none fun p hp hP => Lin.cnt_none fun j hj hR => ?_
    rcases (rok_true _).1 (h p hp) j hj with c | c
    · exact c hR
    · rw [hP] at c; cases c
def bestV (s : Nat × Bool) : Int := if s.2 then ((s.1 : Nat) : Int) else -1
def leastV (cs : Nat → Int) (s : Nat × Bool) : Int := if s.2 then cs s.1 else 0
structure RI (w W : World) (G2 G3 n : Nat) (P : Nat → Bool) (r : Nat → Int) : Prop where
  bl : Below w.heap.size w W
  o2 : OwnB W G2 n P
  o3 : OwnI W G3 n r
theorem RI.keep {w W W' : World} {G2 G3 n : Nat} {P : Nat → Bool} {r : Nat → Int} (h : RI w W G2 G3 n P r) (hb : Below W.heap.size W W') : RI w W' G2 G3 n P r := ⟨below_step h.bl hb, h.o2.keep hb, h.o3.keep hb⟩
def RLPost (w : World) (n m : Nat) (f : Nat → T3) (R : Nat → Nat → Int) (ln : Nat → Nat) (e : Ending) (w' : World) : Prop :=
  Below w.heap.size w w' ∧ ((lawcode n m f R ln ≠ 0 ∧ e = .returned (.tuple #[.slice none 0 0, .int .i64 0, .int .i64 (lawcode n m f R ln)])) ∨ (lawcode n m f R ln = 0 ∧ ∃ st, (lw n f R ln).lst n = some st ∧ ∃ G, w.heap.size ≤ G ∧ e = .returned (.tuple #[.slice (some ⟨G, 0, none⟩) n n, .int .i64 st.gr, .int .i64 0]) ∧ OwnI w' G n (rowS n n st.suf)))

set_option maxHeartbeats 8000000 in
set_option maxRecDepth 100000 in
set_option linter.unusedSimpArgs false in
theorem rlawler_any (a : Option Addr) (n c : Nat) (f : Nat → T3) (va : Option Addr) (m vc : Nat) (H : Nat → Option Addr × Nat × Nat) (R : Nat → Nat → Int) (w : World) (ha : TRow w a n c f) (hr : RRow w va m vc H R) :
    Calls Tryd.prog 31 #[.slice a n c, .slice va m vc] w (RLPost w n m f R (lnH H)) := by
  have HC := hide (rcheck_any a n c f w ha)
  have HA := hide ha
  have HR := hide hr
  have q1 := hr.1
  have q2 := hr.2.1
  have q3 := ha.1
  have q4 := ha.2.1
  clear ha hr
  by_cases ht : tcode n f = 0
  case neg =>
    have hv : lawcode n m f R (lnH H) = tcode n f := by unfold lawcode; rw [if_pos ht]
    obtain ⟨k, hk⟩ : ∃ k, tcode n f = k := ⟨_, rfl⟩
    rw [hk] at HC ht hv
    have HV := hide hv
    have HT := hide ht
    have e0 : (k == 0) = false := by simpa using ht
    clear hk ht hv
    go_enter Tryd.func31, Tryd.ntmps31
    go_wp2_with fail
    refine (unhide HC).mono ?_
    rintro e w2 ⟨rfl, hb2⟩
    go_wp2
    go_ret3
    refine ⟨hb2, Or.inl ?_⟩
    rw [unhide HV]
    exact ⟨unhide HT, rfl⟩
  have hT := goodT_of ht
  rw [ht] at HC
  have HGT := hide hT
  have HT := hide ht
  have hn60 := hT.few
  clear ht hT
  by_cases hne : m = n
  case neg =>
    have hv : lawcode n m f R (lnH H) = 3 := by unfold lawcode; rw [if_neg (by rw [unhide HT]; decide), show lcode n m R (lnH H) = 3 by unfold lcode; rw [if_pos hne]]; rfl
    have HV := hide hv
    have e0 : ((m : Int) == (n : Int)) = false := by simp; omega
    clear hv
    go_enter Tryd.func31, Tryd.ntmps31
    go_wp2_with fail
    refine (unhide HC).mono ?_
    rintro e w2 ⟨rfl, hb2⟩
    go_wp2
    go_ret3
    refine ⟨hb2, Or.inl ?_⟩
    rw [unhide HV]
    exact ⟨by decide, rfl⟩
  subst hne
  have e00 : ((m : Int) == (m : Int)) = true := by simp
  go_enter Tryd.func31, Tryd.ntmps31
  go_wp2_with fail
  refine (unhide HC).mono ?_
  rintro e w2 ⟨rfl, hb2⟩
  have HB2 := hide hb2
  clear hb2 HC
  go_wp2_with fail
  clear e00
  go_loopw [39] (fun vi wv => ∃ i : Nat, vi = .int .i64 (i : Int) ∧ i ≤ m ∧ (∀ q j, q < i → j < lnH H q → 0 ≤ R q j ∧ R q j < (m : Int)) ∧ wv = w2) (fun vi _ => m - (intOf vi).toNat)
  case atStart => exact ⟨0, rfl, Nat.zero_le _, fun q j hq => absurd hq (Nat.not_lt_zero _), rfl⟩
  case round =>
    obtain ⟨i, rfl, hi, hin, rfl⟩ := hrel
    by_cases hlt : i < m
    · obtain ⟨_, _, h3, h4⟩ := unhide HR
      obtain ⟨b, o, rfl, hbl, hc⟩ := h4 (by omega)
      have c0 := hc i hlt
      rw [← (unhide HB2).cell (p := ⟨b, o + i, none⟩) hbl] at c0
      have hrow := h3 i hlt
      obtain ⟨⟨ha0, hl0, hcp⟩, hH⟩ : ∃ t, H i = t := ⟨_, rfl⟩
      have hlH : lnH H i = hl0 := by unfold lnH; rw [hH]
      rw [hH] at c0 hrow
      simp only at c0 hrow
      have HROW := hide hrow
      have HLH := hide hlH
      have HIN := hide hin
      have e1 : (0 : Int) ≤ (i : Int) := by omega
      have e2 : (i : Int) < (m : Int) := by omega
      have e6 : IntKind.i64.wrap ((i : Int) + 1) = (i : Int) + 1 := by rw [IntKind.wrap_i64]; omega
      have q5 := hrow.1
      have q6 := hrow.2.1
      clear h3 h4 hc hrow hH hlH hin
      obtain ⟨wa, hwa⟩ : ∃ W, W = wr := ⟨_, rfl⟩
      go_wp2_with fail
      go_loopw [45] (fun vj wv => ∃ j : Nat, vj = .int .i64 (j : Int) ∧ j ≤ hl0 ∧ (∀ q, q < j → 0 ≤ R i q ∧ R i q < (m : Int)) ∧ wa = wv) (fun vj _ => hl0 - (intOf vj).toNat)
      case atStart => exact ⟨0, rfl, Nat.zero_le _, fun q hq => absurd hq (Nat.not_lt_zero _), hwa⟩
      case round =>
        obtain ⟨j, rfl, hj, hjn, rfl⟩ := hrel
        subst hwa
        by_cases hjl : j < hl0
        · obtain ⟨b2, o2, rfl, hbl2, hc2⟩ := (unhide HROW).2.2 (by omega)
          have k0 := hc2 j hjl
          rw [← (unhide HB2).cell (p := ⟨b2, o2 + j, none⟩) hbl2] at k0
          obtain ⟨x, hx⟩ : ∃ x, R i j = x := ⟨_, rfl⟩
          rw [hx] at k0
          have HX := hide hx
          have HJN := hide hjn
          have f1 : (0 : Int) ≤ (j : Int) := by omega
          have f2 : (j : Int) < (hl0 : Int) := by omega
          have f6 : IntKind.i64.wrap ((j : Int) + 1) = (j : Int) + 1 := by rw [IntKind.wrap_i64]; omega
          by_cases gx : 0 ≤ x ∧ x < (m : Int)
          · have g1 : ¬ x < 0 := by omega
            have g2 : ¬ (m : Int) ≤ x := by omega
            have HGX := hide gx
            clear hc2 hx hjn gx
            go_wp2
            refine ⟨⟨j + 1, by go_num, hjl, fun q hq => ?_, by trivial⟩, by simp [intOf]; omega⟩
            rcases Nat.lt_or_ge q j with c1 | c1
            · exact unhide HJN q c1
            · rw [show q = j by omega, unhide HX]
              exact unhide HGX
          · have HV : Hid (lawcode m m f R (lnH H) = 2) := by
              show lawcode m m f R (lnH H) = 2
              have h5 : lcode m m R (lnH H) = 2 := by
                unfold lcode
                rw [if_neg (by simp), if_pos (badA_true hlt (by rw [unhide HLH]; exact hjl) (by rw [hx]; omega))]
              unfold lawcode
              rw [if_neg (by rw [unhide HT]; decide), h5]; rfl
            by_cases g1 : x < 0
            · clear hc2 hx hjn gx
              go_wp2
              (try simp only [Exit.inBlock, Exit.then])
              (try go_wp2)
              go_ret3
              refine ⟨unhide HB2, Or.inl ?_⟩
              rw [unhide HV]
              exact ⟨by decide, rfl⟩
            · have g2 : (m : Int) ≤ x := by omega
              clear hc2 hx hjn gx
              go_wp2
              (try simp only [Exit.inBlock, Exit.then])
              (try go_wp2)
              go_ret3
              refine ⟨unhide HB2, Or.inl ?_⟩
              rw [unhide HV]
              exact ⟨by decide, rfl⟩
        · obtain rfl : j = hl0 := by omega
          have f2 : ¬ (j : Int) < (j : Int) := by omega
          have HJN := hide hjn
          clear hjn
          go_wp2_with fail
          (try simp only [Exit.inBlock, Exit.then])
          (try go_wp2_with fail)
          refine ⟨⟨i + 1, by go_num, hlt, fun q p hq hp => ?_, by trivial⟩, by simp [intOf]; omega⟩
          rcases Nat.lt_or_ge q i with c1 | c1
          · exact unhide HIN q p c1 hp
          · obtain rfl : q = i := by omega
            rw [unhide HLH] at hp
            exact unhide HJN p hp
    · obtain rfl : m = i := by omega
      have e2 : ¬ (m : Int) < (m : Int) := by omega
      have HAH := hide hin
      have H1 : Hid (lcode m m R (lnH H) = 0) := by
        show lcode m m R (lnH H) = 0
        unfold lcode
        rw [if_neg (by simp), badA_false hin]; rfl
      have mkB := make_bools m (by omega) wr
      have OB := make_ownB wr m
      have bB := alloc_below wr (.cells (brow (fun _ => false) m).toArray 4)
      have szB := alloc_size wr (.cells (brow (fun _ => false) m).toArray 4)
      obtain ⟨W1, hW1⟩ : ∃ W, wr.alloc (.cells (brow (fun _ => false) m).toArray 4) = W := ⟨_, rfl⟩
      rw [hW1] at mkB OB bB szB
      have hG2' := (unhide HB2).size
      obtain ⟨G2, hG2⟩ : ∃ g, wr.heap.size = g := ⟨_, rfl⟩
      rw [hG2] at mkB OB szB hG2'
      have mkI := make_ints m (by omega) W1
      have OI := make_own W1 m
      have b3 := alloc_below W1 (.cells (lrow (fun _ => 0) m).toArray 3)
      obtain ⟨W3, hW3⟩ : ∃ W, W1.alloc (.cells (lrow (fun _ => 0) m).toArray 3) = W := ⟨_, rfl⟩
      rw [hW3] at mkI OI b3
      obtain ⟨G3, hG3⟩ : ∃ g, W1.heap.size = g := ⟨_, rfl⟩
      rw [hG3] at mkI OI szB
      have HRI : Hid (RI w W3 G2 G3 m (fun _ => false) (fun _ => 0)) := ⟨below_step (unhide HB2) (below_step bB b3), OB.keep b3, OI⟩
      have HG : Hid (w.heap.size ≤ G2 ∧ G2 < G3) := ⟨hG2', by omega⟩
      have e7 : IntKind.i64.wrap ((m : Int) - 1) = (m : Int) - 1 := by rw [IntKind.wrap_i64]; omega
      clear hin OB bB szB hG2' OI b3
      go_wp2_with fail
      (try simp only [Exit.inBlock, Exit.then])
      (try go_wp2_with fail)
      clear mkB mkI hW1 hW3 hG2 hG3 e7
      go_loopw [14, 15] (fun vg vp wv => ∃ (j : Nat) (st : Lin.LS), vp = .int .i64 ((m : Int) - 1 - (j : Int)) ∧ j ≤ m ∧ vg = .int .i64 st.gr ∧ (lw m f R (lnH H)).lst j = some st ∧ RI w wv G2 G3 m st.P (rowS m j st.suf)) (fun _ vp _ => (intOf vp + 1).toNat)
      case atStart => exact ⟨0, ⟨fun _ => false, [], 0⟩, by simp, Nat.zero_le _, rfl, rfl, (unhide HRI).bl, (unhide HRI).o2, (unhide HRI).o3.congr (fun i hi => by unfold rowS; rw [if_neg (by omega)])⟩
      case round =>
        obtain ⟨j, ⟨P, suf, gr⟩, hvp, hj, rfl, hst, hI⟩ := hrel
        simp only at hI ⊢
        by_cases hjk : j < m
        · obtain ⟨q0, hq⟩ : ∃ q, m - 1 - j = q := ⟨_, rfl⟩
          rw [show (m : Int) - 1 - (j : Int) = (q0 : Int) by omega] at hvp
          subst hvp
          have HVP : Hid ((q0 : Int) = (m : Int) - 1 - (j : Int)) := by show (q0 : Int) = _; omega
          have HQ0 : Hid (m - 1 - j = q0) := hq
          have HI := hide hI
          have HST := hide hst
          have f1 : (0 : Int) ≤ (q0 : Int) := by omega
          clear hI hst hq HRI
          go_wp2_with fail
          (try simp only [Exit.inBlock, Exit.then])
          (try go_wp2_with fail)
          go_loopw [16, 74] (fun ve vt wv => ∃ t : Nat, vt = .int .i64 (t : Int) ∧ t ≤ m ∧ ve = .int .i64 (Lin.usum (pT f) P t) ∧ wv = wr) (fun _ vt _ => m - (intOf vt).toNat)
          case atStart => exact ⟨0, rfl, Nat.zero_le _, rfl, rfl⟩
          case round =>
            obtain ⟨t, rfl, htm, rfl, rfl⟩ := hrel
            by_cases hlt2 : t < m
            · have g2 := (unhide HI).o2.cell hlt2
              have hE : Lin.usum (pT f) P (t + 1) = Lin.usum (pT f) P t + (if P t then 0 else (f t).1) := rfl
              have he := lw_E_bd (unhide HGT) P t htm
              obtain ⟨b, o, rfl, hbl, hc3⟩ := ((unhide HA).below (unhide HI).bl).2.2 (by omega)
              have ⟨t0, _, _⟩ := hc3 t hlt2
              have hp := (unhide HGT).p t hlt2
              obtain ⟨x, hx⟩ : ∃ x, (f t).1 = x := ⟨_, rfl⟩
              obtain ⟨u, hu⟩ : ∃ u, Lin.usum (pT f) P t = u := ⟨_, rfl⟩
              rw [hx] at t0 hp hE
              rw [hu] at hE he ⊢
              have e3 : (0 : Int) ≤ (t : Int) := by omega
              have e4 : (t : Int) < (m : Int) := by omega
              have e5 : IntKind.i64.wrap (u + x) = u + x := by rw [IntKind.wrap_i64]; omega
              have e6 : IntKind.i64.wrap ((t : Int) + 1) = (t : Int) + 1 := by rw [IntKind.wrap_i64]; omega
              cases hP : P t with
              | true =>
                rw [hP] at g2 hE
                have HE : Hid (Lin.usum (pT f) P (t + 1) = u) := by show Lin.usum (pT f) P (t + 1) = u; rw [hE, if_pos rfl]; omega
                clear hE he hc3 hp hx hu hP
                go_wp2
                exact ⟨⟨t + 1, by go_num, hlt2, by rw [unhide HE], by trivial⟩, by simp [intOf]; omega⟩
              | false =>
                rw [hP] at g2 hE
                have HE : Hid (Lin.usum (pT f) P (t + 1) = u + x) := by show Lin.usum (pT f) P (t + 1) = u + x; rw [hE, if_neg (by decide)]
                clear hE he hc3 hp hx hu hP
                go_wp2
                exact ⟨⟨t + 1, by go_num, hlt2, by rw [unhide HE], by trivial⟩, by simp [intOf]; omega⟩
            · obtain rfl : m = t := by omega
              have e3 : ¬ (m : Int) < (m : Int) := by omega
              obtain ⟨E0, hE0⟩ : ∃ v, Lin.usum (pT f) P m = v := ⟨_, rfl⟩
              have hEb := lw_E_bd (unhide HGT) P m (Nat.le_refl _)
              rw [hE0] at hEb ⊢
              have HE0 : Hid ((lw m f R (lnH H)).E P = E0) := hE0
              have HEB := hide hEb
              clear hE0 hEb
              go_wp2_with fail
              (try simp only [Exit.inBlock, Exit.then])
              (try go_wp2_with fail)
              go_loopw [18, 19, 92] (fun vb vl vt wv => ∃ t : Nat, vt = .int .i64 (t : Int) ∧ t ≤ m ∧ vb = .int .i64 (bestV (Lin.ck (freV P ((lw m f R (lnH H)).bh P)) (cstV f E0) t)) ∧ vl = .int .i64 (leastV (cstV f E0) (Lin.ck (freV P ((lw m f R (lnH H)).bh P)) (cstV f E0) t)) ∧ RI w wv G2 G3 m P (rowS m j suf)) (fun _ _ vt _ => m - (intOf vt).toNat)
              case atStart => exact ⟨0, rfl, Nat.zero_le _, rfl, rfl, unhide HI⟩
              case round =>
                obtain ⟨t, rfl, htm, rfl, rfl, hI5⟩ := hrel
                have HI5 := hide hI5
                by_cases hlt3 : t < m
                · have g2 := hI5.o2.cell hlt3
                  have e4 : (0 : Int) ≤ (t : Int) := by omega
                  have e5 : (t : Int) < (m : Int) := by omega
                  clear hI5 HI
                  obtain ⟨vb, hvb⟩ : ∃ v, bestV (Lin.ck (freV P ((lw m f R (lnH H)).bh P)) (cstV f E0) t) = v := ⟨_, rfl⟩
                  obtain ⟨vl, hvl⟩ : ∃ v, leastV (cstV f E0) (Lin.ck (freV P ((lw m f R (lnH H)).bh P)) (cstV f E0) t) = v := ⟨_, rfl⟩
                  rw [hvb, hvl]
                  have HVB := hide hvb
                  have HVL := hide hvl
                  clear hvb hvl
                  go_wp2_with fail
                  (try simp only [Exit.inBlock, Exit.then])
                  (try go_wp2_with fail)
                  go_loopw [21, 102] (fun vm vq wv => ∃ q : Nat, vq = .int .i64 (q : Int) ∧ q ≤ m ∧ vm = .bool (mr R (lnH H) P t q) ∧ wv = wr) (fun _ vq _ => m - (intOf vq).toNat)
                  case atStart => exact ⟨0, rfl, Nat.zero_le _, rfl, rfl⟩
                  case round =>
                    obtain ⟨q, rfl, hqm, rfl, rfl⟩ := hrel
                    by_cases hlt4 : q < m
                    · obtain ⟨_, _, h3, h4⟩ := unhide HR
                      obtain ⟨b, o, rfl, hbl, hc⟩ := h4 (by omega)
                      have c0 := hc q hlt4
                      rw [← (unhide HI5).bl.cell (p := ⟨b, o + q, none⟩) hbl] at c0
                      have hrow := h3 q hlt4
                      obtain ⟨⟨ha0, hl0, hcp⟩, hH⟩ : ∃ t, H q = t := ⟨_, rfl⟩
                      have hlH : lnH H q = hl0 := by unfold lnH; rw [hH]
                      rw [hH] at c0 hrow
                      simp only at c0 hrow
                      have HROW := hide hrow
                      have HLH := hide hlH
                      have g3 := (unhide HI5).o2.cell hlt4
                      have e8 : (0 : Int) ≤ (q : Int) := by omega
                      have e9 : (q : Int) < (m : Int) := by omega
                      have e10 : IntKind.i64.wrap ((q : Int) + 1) = (q : Int) + 1 := by rw [IntKind.wrap_i64]; omega
                      have q5 := hrow.1
                      have q6 := hrow.2.1
                      obtain ⟨mq, hmq⟩ : ∃ v, mr R (lnH H) P t q = v := ⟨_, rfl⟩
                      rw [hmq]
                      have HMQ := hide hmq
                      clear h3 h4 hc hrow hH hlH hmq
                      go_wp2_with fail
                      (try simp only [Exit.inBlock, Exit.then])
                      (try go_wp2_with fail)
                      go_loopw [21, 109] (fun vm vs wv => ∃ s : Nat, vs = .int .i64 (s : Int) ∧ s ≤ hl0 ∧ vm = .bool (mq && rok R P t q s) ∧ wv = wr) (fun _ vs _ => hl0 - (intOf vs).toNat)
                      case atStart => exact ⟨0, rfl, Nat.zero_le _, by show _ = Value.bool (mq && true); rw [Bool.and_true], rfl⟩
                      case round =>
                        obtain ⟨s, rfl, hsl, rfl, rfl⟩ := hrel
                        by_cases hlt5 : s < hl0
                        · obtain ⟨b2, o2, rfl, hbl2, hc2⟩ := (unhide HROW).2.2 (by omega)
                          have k0 := hc2 s hlt5
                          rw [← (unhide HI5).bl.cell (p := ⟨b2, o2 + s, none⟩) hbl2] at k0
                          have hs : (mq && rok R P t q (s + 1)) = ((mq && rok R P t q s) && (!decide (R q s = (t : Int)) || P q)) := by
                            show (mq && (rok R P t q s && (!decide (R q s = (t : Int)) || P q))) = _
                            rw [Bool.and_assoc]
                          obtain ⟨x, hx⟩ : ∃ x, R q s = x := ⟨_, rfl⟩
                          rw [hx] at k0 hs
                          have f5 : (0 : Int) ≤ (s : Int) := by omega
                          have f6 : (s : Int) < (hl0 : Int) := by omega
                          have f9 : IntKind.i64.wrap ((s : Int) + 1) = (s : Int) + 1 := by rw [IntKind.wrap_i64]; omega
                          cases hb : (mq && rok R P t q s) with
                          | false =>
                            rw [hb] at hs
                            have HS : Hid ((mq && rok R P t q (s + 1)) = false) := by rw [hs]; rfl
                            clear hs hc2 hx hb
                            go_wp2
                            exact ⟨⟨s + 1, by go_num, hlt5, by rw [unhide HS], by trivial⟩, by simp [intOf]; omega⟩
                          | true =>
                            rw [hb] at hs
                            by_cases hxt : x = (t : Int)
                            · have HS : Hid ((mq && rok R P t q (s + 1)) = P q) := by
                                show (mq && rok R P t q (s + 1)) = P q
                                rw [hs, decide_eq_true hxt]; simp
                              have r1 : ((t : Int) == (t : Int)) = true := by simp
                              subst hxt
                              clear hs hc2 hb
                              go_wp2
                              exact ⟨⟨s + 1, by go_num, hlt5, by rw [unhide HS], by trivial⟩, by simp [intOf]; omega⟩
                            · have HS : Hid ((mq && rok R P t q (s + 1)) = true) := by
                                show (mq && rok R P t q (s + 1)) = true
                                rw [hs, decide_eq_false hxt]; simp
                              have r1 : (x == (t : Int)) = false := by simpa using hxt
                              clear hs hc2 hb hx
                              go_wp2
                              exact ⟨⟨s + 1, by go_num, hlt5, by rw [unhide HS], by trivial⟩, by simp [intOf]; omega⟩
                        · obtain rfl : hl0 = s := by omega
                          have f6 : ¬ (hl0 : Int) < (hl0 : Int) := by omega
                          have HS : Hid (mr R (lnH H) P t (q + 1) = (mq && rok R P t q hl0)) := by
                            show (mr R (lnH H) P t q && rok R P t q (lnH H q)) = _
                            rw [unhide HMQ, unhide HLH]
                          go_wp2_with fail
                          (try simp only [Exit.inBlock, Exit.then])
                          (try go_wp2_with fail)
                          exact ⟨⟨q + 1, by go_num, hlt4, by rw [unhide HS], by trivial⟩, by simp [intOf]; omega⟩
                    · obtain rfl : m = q := by omega
                      have e8 : ¬ (m : Int) < (m : Int) := by omega
                      rw [← fr_mr (f := f)]
                      obtain ⟨b, o, rfl, hbl, hc3⟩ := ((unhide HA).below (unhide HI5).bl).2.2 (by omega)
                      have ⟨_, t1, t2⟩ := hc3 t hlt3
                      have hw := (unhide HGT).w t hlt3
                      have hd := (unhide HGT).d t hlt3
                      have hEb := unhide HEB
                      have hM : cstV f E0 t = (f t).2.1 * max 0 (E0 - (f t).2.2) := rfl
                      obtain ⟨y, hy⟩ : ∃ y, (f t).2.1 = y := ⟨_, rfl⟩
                      obtain ⟨z, hz⟩ : ∃ z, (f t).2.2 = z := ⟨_, rfl⟩
                      rw [hy] at t1 hw hM
                      rw [hz] at t2 hd hM
                      obtain ⟨d, hdd⟩ : ∃ t, E0 - z = t := ⟨_, rfl⟩
                      obtain ⟨d', hd'⟩ : ∃ t', (if 0 < d then d else 0) = t' := ⟨_, rfl⟩
                      have hd0 : 0 ≤ d' ∧ d' ≤ 60000000000 ∧ max 0 d = d' := by rw [← hd']; split <;> omega
                      obtain ⟨v, hv⟩ : ∃ v, y * d' = v := ⟨_, rfl⟩
                      have m1 : 0 ≤ y * d' := Int.mul_nonneg hw.1 hd0.1
                      have m2 : y * d' ≤ 10000 * 60000000000 := Int.le_trans (Int.mul_le_mul_of_nonneg_right hw.2 hd0.1) (Int.mul_le_mul_of_nonneg_left hd0.2.1 (by decide))
                      have hcv : cstV f E0 t = v := by rw [hM, hdd, hd0.2.2, hv]
                      have e3 : IntKind.i64.wrap (E0 - z) = d := by rw [hdd, IntKind.wrap_i64]; omega
                      have e9 : IntKind.i64.wrap (y * d') = v := by rw [hv] at m1 m2 ⊢; rw [IntKind.wrap_i64]; omega
                      have e10 : IntKind.i64.wrap ((t : Int) + 1) = (t : Int) + 1 := by rw [IntKind.wrap_i64]; omega
                      have HS : Lin.ck (freV P ((lw m f R (lnH H)).bh P)) (cstV f E0) (t + 1) = if freV P ((lw m f R (lnH H)).bh P) t && (!(Lin.ck (freV P ((lw m f R (lnH H)).bh P)) (cstV f E0) t).2 || decide (cstV f E0 t ≤ cstV f E0 (Lin.ck (freV P ((lw m f R (lnH H)).bh P)) (cstV f E0) t).1)) then (t, true) else Lin.ck (freV P ((lw m f R (lnH H)).bh P)) (cstV f E0) t := rfl
                      have hvb := unhide HVB
                      have hvl := unhide HVL
                      obtain ⟨⟨bs, ok⟩, hs⟩ : ∃ s, Lin.ck (freV P ((lw m f R (lnH H)).bh P)) (cstV f E0) t = s := ⟨_, rfl⟩
                      rw [hs] at HS hvb hvl
                      have HCV := hide hcv
                      clear hc3 hw hd hM hy hz hdd hd0 hv m1 m2 hcv hbl hEb HVB HVL
                      cases hf : freV P ((lw m f R (lnH H)).bh P) t with
                      | false =>
                        rw [hf] at HS
                        have HS' : Hid (Lin.ck (freV P ((lw m f R (lnH H)).bh P)) (cstV f E0) (t + 1) = (bs, ok)) := by rw [HS]; rfl
                        have HVB := hide hvb
                        have HVL := hide hvl
                        clear HS hs hf hvb hvl
                        go_wp2_with fail
                        (try simp only [Exit.inBlock, Exit.then])
                        (try go_wp2_with fail)
                        go_region
                        go_wp2
                        exact ⟨⟨t + 1, by go_num, hlt3, by rw [unhide HS', unhide HVB], by rw [unhide HS', unhide HVL], (unhide HI5).keep (drew_below _)⟩, by simp [intOf]; omega⟩
                      | true =>
                        rw [hf] at HS
                        cases ok with
                        | false =>
                          have HS' : Hid (Lin.ck (freV P ((lw m f R (lnH H)).bh P)) (cstV f E0) (t + 1) = (t, true)) := by rw [HS]; rfl
                          have hvb' : vb = -1 := hvb.symm
                          subst hvb'
                          clear HS hs hf hvb hvl
                          go_wp2_with fail
                          (try simp only [Exit.inBlock, Exit.then])
                          (try go_wp2_with fail)
                          go_region
                          go_wp2
                          exact ⟨⟨t + 1, by go_num, hlt3, by rw [unhide HS']; rfl, by rw [unhide HS']; show _ = Value.int .i64 (cstV f E0 t); rw [unhide HCV], (unhide HI5).keep (drew_below _)⟩, by simp [intOf]; omega⟩
                        | true =>
                          have hvb' : vb = ((bs : Nat) : Int) := hvb.symm
                          have hvl' : cstV f E0 bs = vl := hvl
                          have r1 : ¬ ((bs : Nat) : Int) < 0 := by omega
                          subst hvb'
                          rw [unhide HCV, hvl'] at HS
                          by_cases hle : v ≤ vl
                          · have HS' : Hid (Lin.ck (freV P ((lw m f R (lnH H)).bh P)) (cstV f E0) (t + 1) = (t, true)) := by rw [HS, decide_eq_true hle]; rfl
                            clear HS hs hf hvb hvl hvl'
                            go_wp2_with fail
                            (try simp only [Exit.inBlock, Exit.then])
                            (try go_wp2_with fail)
                            go_region
                            go_wp2
                            exact ⟨⟨t + 1, by go_num, hlt3, by rw [unhide HS']; rfl, by rw [unhide HS']; show _ = Value.int .i64 (cstV f E0 t); rw [unhide HCV], (unhide HI5).keep (drew_below _)⟩, by simp [intOf]; omega⟩
                          · have HS' : Hid (Lin.ck (freV P ((lw m f R (lnH H)).bh P)) (cstV f E0) (t + 1) = (bs, true)) := by rw [HS, decide_eq_false hle]; rfl
                            have HVL := hide hvl'
                            clear HS hs hf hvb hvl hvl'
                            go_wp2_with fail
                            (try simp only [Exit.inBlock, Exit.then])
                            (try go_wp2_with fail)
                            go_region
                            go_wp2
                            exact ⟨⟨t + 1, by go_num, hlt3, by rw [unhide HS']; rfl, by rw [unhide HS']; show _ = Value.int .i64 (cstV f E0 bs); rw [unhide HVL], (unhide HI5).keep (drew_below _)⟩, by simp [intOf]; omega⟩
                · obtain rfl : m = t := by omega
                  have e4 : ¬ (m : Int) < (m : Int) := by omega
                  obtain ⟨⟨bs, ok⟩, hs⟩ : ∃ s, Lin.ck (freV P ((lw m f R (lnH H)).bh P)) (cstV f E0) m = s := ⟨_, rfl⟩
                  rw [hs]
                  have hbest : (lw m f R (lnH H)).best P = (bs, ok) := by
                    have h9 : (lw m f R (lnH H)).best P = Lin.ck (freV P ((lw m f R (lnH H)).bh P)) (cstV f ((lw m f R (lnH H)).E P)) m := rfl
                    rw [h9, unhide HE0]; exact hs
                  cases ok with
                  | false =>
                    have HV : Hid (lawcode m m f R (lnH H) = 12) := by
                      show lawcode m m f R (lnH H) = 12
                      have h5 : (lw m f R (lnH H)).lst (j + 1) = none := by
                        show ((lw m f R (lnH H)).lst j).bind _ = none
                        rw [unhide HST]
                        show Lin.Lw.next _ _ = none
                        unfold Lin.Lw.next
                        rw [hbest]; rfl
                      unfold lawcode
                      rw [if_neg (by rw [unhide HT]; decide), if_neg (by rw [unhide H1]; decide), Lin.Lw.lst_none _ h5 m hjk]; rfl
                    rw [show bestV (bs, false) = -1 from rfl, show leastV (cstV f E0) (bs, false) = 0 from rfl]
                    clear hs hbest hI5 HI
                    go_wp2
                    (try simp only [Exit.inBlock, Exit.then])
                    (try go_wp2)
                    go_ret3
                    refine ⟨(unhide HI5).bl, Or.inl ?_⟩
                    rw [unhide HV]
                    exact ⟨by decide, rfl⟩
                  | true =>
                    obtain ⟨b1, b2, _, _⟩ := Lin.Lw.best_ok (lw m f R (lnH H)) (P := P) (by rw [hbest])
                    rw [hbest] at b1 b2
                    have hbk : bs < m := b1
                    obtain ⟨cv, hcv⟩ : ∃ v, cstV f E0 bs = v := ⟨_, rfl⟩
                    obtain ⟨mx, hmx⟩ : ∃ v, (if gr < cv then cv else gr) = v := ⟨_, rfl⟩
                    have HN : Hid ((lw m f R (lnH H)).lst (j + 1) = some ⟨Lin.upT P bs, bs :: suf, mx⟩) := by
                      show ((lw m f R (lnH H)).lst j).bind _ = _
                      rw [unhide HST]
                      show Lin.Lw.next _ _ = _
                      unfold Lin.Lw.next
                      rw [hbest]
                      show some (Lin.LS.mk (Lin.upT P bs) (bs :: suf) (max gr (cstV f ((lw m f R (lnH H)).E P) bs))) = _
                      rw [unhide HE0, hcv, show max gr cv = mx by rw [← hmx]; split <;> omega]
                    rw [show bestV (bs, true) = ((bs : Nat) : Int) from rfl, show leastV (cstV f E0) (bs, true) = cstV f E0 bs from rfl, hcv]
                    have hqk : q0 < m := by have := unhide HQ0; omega
                    have r1 : ¬ ((bs : Nat) : Int) < 0 := by omega
                    have g3 := hI5.o3.cell hqk
                    have g3f := hI5.o3.free q0
                    have g2 := hI5.o2.cell hbk
                    have g2f := hI5.o2.free bs
                    have hne := (unhide HG).2
                    have w6 := hI5.o2.apart (g := G3) (j := q0) (v := .int .i64 (bs : Int)) (by omega)
                    have g62 := w6.cell hbk
                    have g62f := w6.free bs
                    obtain ⟨u0, g3⟩ : ∃ v : Value, wr.cell? ⟨G3, q0, none⟩ = some v := ⟨_, g3⟩
                    obtain ⟨u1, g2⟩ : ∃ v : Value, wr.cell? ⟨G2, bs, none⟩ = some v := ⟨_, g2⟩
                    obtain ⟨u2, g62⟩ : ∃ v : Value, (wr.setCell ⟨G3, q0, none⟩ (.int .i64 (bs : Int))).cell? ⟨G2, bs, none⟩ = some v := ⟨_, g62⟩
                    have f2 : (q0 : Int) < (m : Int) := by omega
                    have f3 : (0 : Int) ≤ (bs : Int) := by omega
                    have f4 : (bs : Int) < (m : Int) := by omega
                    have f9 : IntKind.i64.wrap ((q0 : Int) - 1) = (q0 : Int) - 1 := by rw [IntKind.wrap_i64]; omega
                    have FIN : Hid (RI w ((wr.setCell ⟨G3, q0, none⟩ (.int .i64 (bs : Int))).setCell ⟨G2, bs, none⟩ (.bool true)) G2 G3 m (Lin.upT P bs) (rowS m (j + 1) (bs :: suf))) := by
                      refine ⟨(hI5.bl.setCell (p := ⟨G3, q0, none⟩) (by have := unhide HG; show _ ≤ G3; omega) _).setCell (p := ⟨G2, bs, none⟩) (unhide HG).1 _, w6.set bs true, ?_⟩
                      refine ((hI5.o3.set q0 (bs : Int)).apart (by omega)).congr fun i _ => ?_
                      rw [← unhide HQ0]
                      exact rowS_succ hjk i
                    clear hs hbest hI5 HI b1 b2 hcv w6 hne
                    go_wp2_with fail
                    (try simp only [Exit.inBlock, Exit.then])
                    (try go_wp2_with fail)
                    exact ⟨⟨j + 1, ⟨Lin.upT P bs, bs :: suf, mx⟩, by rw [unhide HVP]; congr 1; omega, hjk, rfl, unhide HN, unhide FIN⟩, by simp [intOf]⟩
        · obtain rfl : m = j := by omega
          rw [show (m : Int) - 1 - (m : Int) = -1 by omega] at hvp
          subst hvp
          have HV : Hid (lawcode m m f R (lnH H) = 0) := by
            show lawcode m m f R (lnH H) = 0
            unfold lawcode
            rw [if_neg (by rw [unhide HT]; decide), if_neg (by rw [unhide H1]; decide), hst]; rfl
          have HST := hide hst
          have HI := hide hI
          have HG3 : Hid (w.heap.size ≤ G3) := by have := unhide HG; exact (by omega : w.heap.size ≤ G3)
          clear hst hI HRI
          go_wp2
          go_ret3
          exact ⟨(unhide HI).bl, Or.inr ⟨unhide HV, _, unhide HST, G3, unhide HG3, rfl, (unhide HI).o3⟩⟩
end Go.Proofs.YtmpigipeajdgcaaDoor
