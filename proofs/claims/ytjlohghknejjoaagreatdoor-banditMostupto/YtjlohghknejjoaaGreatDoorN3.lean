/- Equations: the quotient; whether rows are square; a row brought ahead; a row taken away. -/
import Derived.Test.YtjlohghknejjoaaGreatDoorN2
import Derived.Test.YtjlohghknejjoaaGreatDoorV2
import Derived.Test.YtjlohghknejjoaaGreatDoorQ0
namespace Go.Proofs.YtjlohghknejjoaaGreatDoor
open Go.RowKit Go.Sort Go.Shelf

theorem chain_one_any {P : Program} {ops : Array Oper} {Q : Exit → Act → World → Prop} {C : World → Prop} {md : Region.Mode} (N : Nat) (mk : Nat → Bool → Array Bool) (ic : Nat → Nat) (ia m : Nat) (I : Nat → Bool → Act → World → Prop)
    (hr : ∀ c l, c ≤ N → (Region.ready md ops (mk c l)).all (fun i => (i == ic c && decide (c < N)) || (i == ia && !l) || (c == N && l)) = true)
    (hne : ∀ c l, c ≤ N → (c == N && l) = false → (Region.ready md ops (mk c l)).isEmpty = false)
    (h1 : ∀ c l, c < N → (mk c l).setIfInBounds (ic c) true = mk (c + 1) l) (ha : ∀ c, (mk c false).setIfInBounds ia true = mk c true)
    (s1 : ∀ c l a w, c < N → I c l a w → wpOp P ops Q (ic c) (fun a' w' => C w' ∧ I (c + 1) l a' w') a w)
    (sa : ∀ c a w, I c false a w → wpOp P ops Q ia (fun a' w' => C w' ∧ I c true a' w') a w)
    (fin : ∀ a w, I N true a w → wpHold P md ops Q C m (mk N true) a w) :
    ∀ n c l, c ≤ N → (N - c) + (1 - l.toNat) = n → ∀ a w, I c l a w → wpHold P md ops Q C (n + m) (mk c l) a w := by
  intro n
  induction n with
  | zero =>
    intro c l hc hn a w h
    obtain rfl : c = N := by omega
    cases l <;> simp at hn
    rw [Nat.zero_add]
    exact fin a w h
  | succ n ih =>
    intro c l hc hn a w h
    have hall := hr c l hc
    have hend : (c == N && l) = false := by
      cases l <;> simp at hn ⊢
      omega
    have hnn := hne c l hc hend
    rw [Nat.succ_add]
    refine ⟨fun e => (by rw [e] at hnn; cases hnn), fun i hi => ?_⟩
    have hk := List.all_eq_true.1 hall i hi
    rw [hend] at hk
    simp only [Bool.or_eq_true, Bool.and_eq_true, beq_iff_eq, Bool.not_eq_true', Bool.or_false, decide_eq_true_eq] at hk
    rcases hk with ⟨rfl, hlt⟩ | ⟨rfl, rfl⟩
    · exact wpOp_mono (fun a' w' h' => ⟨h'.1, by rw [h1 c l hlt]; exact ih (c + 1) l (by omega) (by omega) a' w' h'.2⟩) (s1 c l a w hlt h)
    · exact wpOp_mono (fun a' w' h' => ⟨h'.1, by rw [ha]; exact ih c true hc (by simp at hn ⊢; omega) a' w' h'.2⟩) (sa c a w h)

/-- A fraction, and a box. -/
structure OneJ (q1 : Rat) (w0 : World) (c : Nat) (l : Bool) (w : World) (s1 s3 : Value) : Prop where
  bl : Below w0.heap.size w0 w
  r1 : 1 ≤ c → RatIs w s1 q1
  al : l = true → ∃ b, s3 = .pointer (some ⟨b, 0, none⟩) ∧ BoxIs w b zTri 0 ∧ w0.heap.size ≤ b

set_option maxHeartbeats 4000000 in
set_option maxRecDepth 100000 in
set_option linter.unusedSimpArgs false in
theorem edivided_any (va vb : Value) (qa qb : Rat) (w : World) (ha : RatIs w va qa) (hb : RatIs w vb qb) (J : Nat) (hqa : RS qa J) (hqb : RS qb J) (hJ : J + J + 1 ≤ KK) (hz : qb.num ≠ 0) :
    Calls Tryz.prog 121 #[va, vb] w fun e w' => ∃ v, e = .returned v ∧ RatIs w' v (qa / qb) ∧ Below w.heap.size w w' := by
  obtain ⟨ta, rfl, ha'⟩ := tri_of ha
  obtain ⟨tb, rfl, hb'⟩ := tri_of hb
  have bA := below_step (below_step (alloc_below w (.cells #[.bool ta.s, .slice ta.a1 ta.n1 ta.c1, .slice ta.a2 ta.n2 ta.c2] 37)) (alloc_below _ (.cells #[.bool tb.s, .slice tb.a1 tb.n1 tb.c1, .slice tb.a2 tb.n2 tb.c2] 37))) (alloc_below _ (.cells #[.bool false, .slice none 0 0, .slice none 0 0] 37))
  have HDV := hide (divR_any ta.val tb.val qa qb _ (ha'.below bA) (hb'.below bA) J hqa hqb hJ hz)
  have HB_0 := hide bA
  have HX_b4_0 := hide (BoxIs.new (w := (w.alloc (.cells #[.bool ta.s, .slice ta.a1 ta.n1 ta.c1, .slice ta.a2 ta.n2 ta.c2] 37)).alloc (.cells #[.bool tb.s, .slice tb.a1 tb.n1 tb.c1, .slice tb.a2 tb.n2 tb.c2] 37)) (t := zTri) (q := 0) (rat_zero _))
  obtain ⟨W0, hW0⟩ : ∃ W, ((w.alloc (.cells #[.bool ta.s, .slice ta.a1 ta.n1 ta.c1, .slice ta.a2 ta.n2 ta.c2] 37)).alloc (.cells #[.bool tb.s, .slice tb.a1 tb.n1 tb.c1, .slice tb.a2 tb.n2 tb.c2] 37)).alloc (.cells #[.bool false, .slice none 0 0, .slice none 0 0] 37) = W := ⟨_, rfl⟩
  have e5 : ((w.alloc (.cells #[.bool ta.s, .slice ta.a1 ta.n1 ta.c1, .slice ta.a2 ta.n2 ta.c2] 37)).alloc (.cells #[.bool tb.s, .slice tb.a1 tb.n1 tb.c1, .slice tb.a2 tb.n2 tb.c2] 37)).heap.size = w.heap.size + 1 + 1 := by rw [alloc_size, alloc_size]
  rw [show ((w.alloc (.cells #[.bool ta.s, .slice ta.a1 ta.n1 ta.c1, .slice ta.a2 ta.n2 ta.c2] 37)).alloc (.cells #[.bool tb.s, .slice tb.a1 tb.n1 tb.c1, .slice tb.a2 tb.n2 tb.c2] 37)).alloc (.cells #[.bool zTri.s, .slice zTri.a1 zTri.n1 zTri.c1, .slice zTri.a2 zTri.n2 zTri.c2] 37) = W0 from hW0, e5] at HX_b4_0
  rw [hW0] at HB_0 HDV
  have HWE := hide hW0
  clear e5 ha hb ha' hb' hW0 bA
  simp only [Tri.val]
  generalize qa / qb = q at *
  go_enter Tryz.func121, Tryz.ntmps121
  go_wp2_with fail
  rw [unhide HWE]
  clear HWE
  obtain ⟨b4, hb4⟩ : ∃ b, w.heap.size + 1 + 1 = b := ⟨_, rfl⟩
  have HG_b4 : Hid (w.heap.size ≤ b4) := show _ ≤ _ by omega
  rw [hb4] at HX_b4_0 ⊢
  clear hb4
  refine (unhide HDV).mono ?_
  rintro e w_1 ⟨v4, rfl, hv4, hbx⟩
  obtain ⟨t5, rfl, hr_1⟩ := tri_of hv4
  simp only [Tri.val]
  have HL_b4_b5 := hide (Nat.lt_of_lt_of_le (unhide HX_b4_0).lt hbx.size)
  have HG_b5 := hide (below_step (unhide HB_0) hbx).size
  have hb_1 := below_step hbx (alloc_below w_1 (.cells #[.bool t5.s, .slice t5.a1 t5.n1 t5.c1, .slice t5.a2 t5.n2 t5.c2] 37))
  have HB_2 := hide (below_step (unhide HB_0) hb_1)
  have HX_b4_2 := hide ((unhide HX_b4_0).keep hb_1)
  clear HB_0 HX_b4_0
  have HX_b5_1 := hide (BoxIs.new hr_1)
  obtain ⟨Wb5, hW_1⟩ : ∃ W, w_1.alloc (.cells #[.bool t5.s, .slice t5.a1 t5.n1 t5.c1, .slice t5.a2 t5.n2 t5.c2] 37) = W := ⟨_, rfl⟩
  obtain ⟨b5, hc_1⟩ : ∃ b, w_1.heap.size = b := ⟨_, rfl⟩
  rw [hW_1] at HB_2 HX_b4_2 HX_b5_1
  rw [hc_1] at HX_b5_1 HL_b4_b5 HG_b5
  clear hv4 hr_1 hbx hb_1
  have ⟨l0, l1, l2⟩ := (unhide HX_b4_2).free
  have ⟨y0, y1, y2⟩ := (unhide HX_b4_2).cells _ (Below.refl _ _)
  have ⟨y3, y4, y5⟩ := (unhide HX_b5_1).cells _ (Below.refl _ _)
  have FIN := hide ((unhide HX_b4_2).set (unhide HX_b5_1).2)
  have FB := hide ((((unhide HB_2).setCell (p := ⟨b4, 0, none⟩) (unhide HG_b4) (.bool t5.s)).setCell (p := ⟨b4, 1, none⟩) (unhide HG_b4) (.slice t5.a1 t5.n1 t5.c1)).setCell (p := ⟨b4, 2, none⟩) (unhide HG_b4) (.slice t5.a2 t5.n2 t5.c2))
  obtain ⟨Wf, hWf⟩ : ∃ W, ((Wb5.setCell ⟨b4, 0, none⟩ (.bool t5.s)).setCell ⟨b4, 1, none⟩ (.slice t5.a1 t5.n1 t5.c1)).setCell ⟨b4, 2, none⟩ (.slice t5.a2 t5.n2 t5.c2) = W := ⟨_, rfl⟩
  rw [hWf] at FIN FB
  have ⟨x0, x1, x2⟩ := (unhide FIN).cells _ (Below.refl _ _)
  go_wp2
  exact bodyPost_ret (v := .agg #[.bool t5.s, .slice t5.a1 t5.n1 t5.c1, .slice t5.a2 t5.n2 t5.c2]) (by simp [results, Tryz.results121, go_sem, x0, x1, x2]) rfl ⟨_, rfl, (unhide FIN).2, unhide FB⟩

set_option maxHeartbeats 8000000 in
set_option maxRecDepth 100000 in
set_option linter.unusedSimpArgs false in
theorem square_any (v vr : Value) (ks : List (List Rat)) (qs : List Rat) (w : World) (h : RowsAre w v ks) (hr : LawIs w vr qs) (hs : ∀ j, j < ks.length → (ks[j]!).length = ks.length) (hq : qs.length = ks.length) :
    Calls Tryz.prog 99 #[v, vr] w fun e w' => e = .returned (.bool true) ∧ Below w.heap.size w w' := by
  obtain ⟨a, c, rfl, h1, h2, h3⟩ := h
  obtain ⟨ar, cr, rfl, _, _, _⟩ := hr
  rw [hq]
  have H3 := hide h3
  have HS := hide hs
  obtain ⟨n, hn⟩ : ∃ n, ks.length = n := ⟨_, rfl⟩
  rw [hn] at h1 ⊢
  have HN := hide hn
  clear h3 hs hn hq
  go_enter Tryz.func99, Tryz.ntmps99
  go_wp2_with fail
  go_loopw [9] (fun vi wr => ∃ i : Nat, vi = .int .i64 (i : Int) ∧ i ≤ n ∧ Below w.heap.size w wr) (fun vi _ => n - (intOf vi).toNat)
  case atStart => exact ⟨0, rfl, Nat.zero_le _, Below.refl _ _⟩
  case round =>
    obtain ⟨i, rfl, hi, hb⟩ := hrel
    have HB := hide hb
    by_cases hlt : i < n
    · obtain ⟨b, o, rfl, hblt, hcs⟩ := unhide H3 (by have := unhide HN; omega)
      obtain ⟨l, k0, hl⟩ := hcs i (by have := unhide HN; omega)
      have hln : l.n = n := by rw [law_len hl, unhide HS i (by have := unhide HN; omega), unhide HN]
      rw [hln, ← hb.cell (p := ⟨b, o + i, none⟩) hblt] at k0
      have e1 : (i : Int) < (n : Int) := by omega
      have e0 : (0 : Int) ≤ (i : Int) := by omega
      clear hb hcs hl hln
      go_wp2_with fail
      exact ⟨⟨i + 1, by go_num, hlt, unhide HB⟩, by simp [intOf]; omega⟩
    · obtain rfl : i = n := by omega
      have e1 : ¬ (i : Int) < (i : Int) := by omega
      clear hb
      go_wp2
      go_ret
      exact ⟨rfl, unhide HB⟩

/-- What brought says. -/
def BroughtPost (w : World) (G n m k : Nat) (M : Nat → Nat → Rat) (e : Ending) (w' : World) : Prop :=
  (∃ p bs uss, k ≤ p ∧ p < n ∧ M p k ≠ 0 ∧ e = .returned (.bool true) ∧ MatAt w w' G n n m bs uss (Lin.swp M k p)) ∨ ((∀ p, k ≤ p → p < n → M p k = 0) ∧ e = .returned (.bool false) ∧ Below w.heap.size w w')

set_option maxHeartbeats 8000000 in
set_option maxRecDepth 100000 in
set_option linter.unusedSimpArgs false in
theorem brought_any (w w1 : World) (G n m k d : Nat) (bs : Nat → Nat) (uss : Nat → List Tri) (M : Nat → Nat → Rat) (h : MatAt w w1 G n n m bs uss M) (hd : n = k + d) (hm : k < m) (_hm2 : m ≤ 1000) (hn : n ≤ 1000) :
    Calls Tryz.prog 101 #[.slice (some ⟨G, k, none⟩) d d, .int .i64 (k : Int)] w1 (BroughtPost w G n m k M) := by
  have HM := hide h
  clear h
  go_enter Tryz.func101, Tryz.ntmps101
  go_wp2_with fail
  go_loopw [9] (fun vi wx => ∃ i : Nat, vi = .int .i64 (i : Int) ∧ i ≤ d ∧ MatAt w wx G n n m bs uss M ∧ ∀ p, k ≤ p → p < k + i → M p k = 0) (fun vi _ => d - (intOf vi).toNat)
  case atStart => exact ⟨0, rfl, Nat.zero_le _, unhide HM, fun p a b => by omega⟩
  case round =>
    obtain ⟨i, rfl, hi, hM, hz⟩ := hrel
    clear HM
    have HM := hide hM
    have HZ := hide hz
    by_cases hlt : i < d
    · have k0 := hM.head (i := k + i) (by omega) (by omega)
      have ⟨⟨c0, c1, c2⟩, _⟩ := hM.cells (i := k + i) (j := k) (by omega) hm
      have r := hM.rat (k + i) k (by omega) hm
      obtain ⟨t, ht⟩ : ∃ t, (uss (k + i))[k]! = t := ⟨_, rfl⟩
      rw [ht] at c0 c1 c2 r
      have HSG := hide (sign_any t.val (M (k + i) k) wr r)
      have e1 : (i : Int) < (d : Int) := by omega
      have e0 : (0 : Int) ≤ (i : Int) := by omega
      have e2 : (0 : Int) ≤ (k : Int) := by omega
      have e3 : (k : Int) < (m : Int) := by omega
      clear hM hz r ht
      go_wp2_with fail
      refine (unhide HSG).mono ?_
      rintro e w2 ⟨rfl, hb2⟩
      have HM2 := hide ((unhide HM).keep hb2)
      clear k0 c0 c1 c2 hb2 HM HSG
      by_cases hq : M (k + i) k = 0
      · have hs : (M (k + i) k).num.sign = 0 := by rw [hq]; rfl
        rw [hs]
        have HQ := hide hq
        clear hs hq
        go_wp2_with fail
        refine ⟨⟨i + 1, by go_num, hlt, unhide HM2, fun p a b => ?_⟩, by simp [intOf]; omega⟩
        by_cases e : p = k + i
        · rw [e]; exact unhide HQ
        · exact unhide HZ p a (by omega)
      · have hs : ((M (k + i) k).num.sign == 0) = false := by rw [beq_eq_false_iff_ne]; intro h; exact hq (Rat.num_eq_zero.1 (Int.sign_eq_zero_iff_zero.1 h))
        have bd := sign_bd (M (k + i) k).num
        obtain ⟨x, hx⟩ : ∃ x, (M (k + i) k).num.sign = x := ⟨_, rfl⟩
        rw [hx] at hs bd ⊢
        obtain ⟨bd1, bd2⟩ := bd
        have HQ := hide hq
        have k1 := (unhide HM2).head (i := k) (by omega) (by omega)
        have k2 := (unhide HM2).head (i := k + i) (by omega) (by omega)
        have f1 := hdl_free (unhide HM2).out k
        have f2 := hdl_free (unhide HM2).out (k + i)
        have FIN := hide ((unhide HM2).swap (k := k) (p := k + i) (by omega) (by omega) (by omega))
        have hd0 : 0 < d := by omega
        have o1 := hdl_write (unhide HM2).out k (.slice (some ⟨bs (k + i), 0, none⟩) m m)
        rw [show Value.slice (some ⟨bs (k + i), 0, none⟩) m m = Sl.val (inB m bs (k + i)) from rfl, hdl_set n n k (inB m bs) (inB m bs (k + i)) (by omega)] at o1
        have k5 := hdl_cell o1 (i := k + i) (by omega) (by omega)
        have f5 := hdl_free o1 (k + i)
        rw [show Sl.val (inB m bs (k + i)) = Value.slice (some ⟨bs (k + i), 0, none⟩) m m from rfl] at k5 f5
        obtain ⟨W5, hW5⟩ : ∃ W, w2.setCell ⟨G, k, none⟩ (.slice (some ⟨bs (k + i), 0, none⟩) m m) = W := ⟨_, rfl⟩
        rw [hW5] at FIN k5 f5
        obtain ⟨ss, hss⟩ : ∃ s, upl (inB m bs) k (inB m bs (k + i)) (k + i) = s := ⟨_, rfl⟩
        rw [hss] at k5
        clear hq hx o1 hss
        go_wp2
        go_ret
        exact Or.inl ⟨k + i, _, _, by omega, by omega, unhide HQ, rfl, unhide FIN⟩
    · obtain rfl : i = d := by omega
      have e1 : ¬ (i : Int) < (i : Int) := by omega
      have HB := hide hM.bl
      clear hM hz HM
      go_wp2
      go_ret
      exact Or.inr ⟨fun p a b => unhide HZ p a (by omega), rfl, unhide HB⟩

/-- Row i, of which the row k is taken away, up to place j. -/
def tk (M : Nat → Nat → Rat) (i k j : Nat) : Nat → Nat → Rat := fun a b => if a = i ∧ k < b ∧ b < j then M i b - M i k / M k k * M k b else M a b
theorem tk_zero (M : Nat → Nat → Rat) (i k : Nat) : tk M i k (k + 1) = M := by
  funext a b
  unfold tk
  rw [if_neg (by omega)]
theorem tk_next (M : Nat → Nat → Rat) (i k j : Nat) (hj : k < j) : upm (tk M i k j) i j (M i j - M i k / M k k * M k j) = tk M i k (j + 1) := by
  funext a b
  unfold upm tk
  by_cases h : a = i ∧ b = j
  · rw [if_pos h, if_pos ⟨h.1, by omega, by omega⟩, h.2]
  · rw [if_neg h]
    by_cases h2 : a = i ∧ k < b ∧ b < j
    · rw [if_pos h2, if_pos ⟨h2.1, h2.2.1, by omega⟩]
    · rw [if_neg h2, if_neg (fun x => h2 ⟨x.1, x.2.1, by have : b ≠ j := fun e => h ⟨x.1, e⟩; omega⟩)]
theorem tk_other (M : Nat → Nat → Rat) {i k j a : Nat} (b : Nat) (h : a ≠ i) : tk M i k j a b = M a b := by unfold tk; rw [if_neg (fun x => h x.1)]
theorem tk_ahead (M : Nat → Nat → Rat) {i k j b : Nat} (h : j ≤ b) : tk M i k j i b = M i b := by unfold tk; rw [if_neg (by omega)]

set_option maxHeartbeats 8000000 in
set_option maxRecDepth 100000 in
set_option linter.unusedSimpArgs false in
theorem etake_any (w w1 : World) (G n m k i J : Nat) (bs : Nat → Nat) (uss : Nat → List Tri) (M : Nat → Nat → Rat) (h : MatAt w w1 G n n m bs uss M) (hk : k < n) (hi : i < n) (hik : i ≠ k) (hm : k < m) (hm2 : m ≤ 1000) (hz : M k k ≠ 0)
    (hJ : ∀ a b, a < n → b < m → RS (M a b) J) (hJ2 : 8 * J + 8 ≤ KK) :
    Calls Tryz.prog 102 #[.slice (some ⟨bs i, 0, none⟩) m m, .slice (some ⟨bs k, 0, none⟩) m m, .int .i64 (k : Int)] w1 fun e w' => e = .returned (.tuple #[]) ∧ ∃ uss', MatAt w w' G n n m bs uss' (tk M i k m) := by
  have HM := hide h
  have HJ := hide hJ
  have ⟨⟨c0, c1, c2⟩, _⟩ := h.cells (i := i) (j := k) hi hm
  have ⟨⟨d0, d1, d2⟩, _⟩ := h.cells (i := k) (j := k) hk hm
  have ra := h.rat i k hi hm
  have rb := h.rat k k hk hm
  obtain ⟨ta, hta⟩ : ∃ t, (uss i)[k]! = t := ⟨_, rfl⟩
  obtain ⟨tb, htb⟩ : ∃ t, (uss k)[k]! = t := ⟨_, rfl⟩
  rw [hta] at c0 c1 c2 ra
  rw [htb] at d0 d1 d2 rb
  have hli := h.lt hi
  have hlk := h.lt hk
  have hab := h.apart i k hi hk hik
  obtain ⟨bi, hbi⟩ : ∃ b, bs i = b := ⟨_, rfl⟩
  obtain ⟨bk, hbk⟩ : ∃ b, bs k = b := ⟨_, rfl⟩
  rw [hbi] at c0 c1 c2 hli hab ⊢
  rw [hbk] at d0 d1 d2 hlk hab ⊢
  have HBI := hide hbi
  have HBK := hide hbk
  have HLI := hide hli
  have HNE := hide hab
  have HCC : Hid (∀ W, Below w1.heap.size w1 W → (fun w' : World => (w'.cell? ⟨bi, k * 3, none⟩ = some (.bool ta.s) ∧ w'.cell? ⟨bi, k * 3 + 1, none⟩ = some (.slice ta.a1 ta.n1 ta.c1) ∧ w'.cell? ⟨bi, k * 3 + 2, none⟩ = some (.slice ta.a2 ta.n2 ta.c2)) ∧ (w'.cell? ⟨bk, k * 3, none⟩ = some (.bool tb.s) ∧ w'.cell? ⟨bk, k * 3 + 1, none⟩ = some (.slice tb.a1 tb.n1 tb.c1) ∧ w'.cell? ⟨bk, k * 3 + 2, none⟩ = some (.slice tb.a2 tb.n2 tb.c2))) W) := fun W hW => by
    refine ⟨?_, ?_⟩
    · rw [hW.cell (p := ⟨bi, k * 3, none⟩) hli, hW.cell (p := ⟨bi, k * 3 + 1, none⟩) hli, hW.cell (p := ⟨bi, k * 3 + 2, none⟩) hli]; exact ⟨c0, c1, c2⟩
    · rw [hW.cell (p := ⟨bk, k * 3, none⟩) hlk, hW.cell (p := ⟨bk, k * 3 + 1, none⟩) hlk, hW.cell (p := ⟨bk, k * 3 + 2, none⟩) hlk]; exact ⟨d0, d1, d2⟩
  have HDV : Hid (∀ W, Below w1.heap.size w1 W → Calls Tryz.prog 121 #[.agg #[.bool ta.s, .slice ta.a1 ta.n1 ta.c1, .slice ta.a2 ta.n2 ta.c2], .agg #[.bool tb.s, .slice tb.a1 tb.n1 tb.c1, .slice tb.a2 tb.n2 tb.c2]] W fun e w' => ∃ v, e = .returned v ∧ RatIs w' v (M i k / M k k) ∧ Below W.heap.size W w') := fun W hW => edivided_any ta.val tb.val _ _ W (ra.below hW) (rb.below hW) J (hJ i k hi hm) (hJ k k hk hm) (by omega) (fun e => hz (Rat.num_eq_zero.1 e))
  have hqR : RS (M i k / M k k) (J + J) := (hJ i k hi hm).div' (hJ k k hk hm) (fun e => hz (Rat.num_eq_zero.1 e))
  have HQR := hide hqR
  have e2 : (0 : Int) ≤ (k : Int) := by omega
  have e3 : (k : Int) < (m : Int) := by omega
  clear h hJ c0 c1 c2 d0 d1 d2 ra rb hta htb hbi hbk hli hlk hab hqR
  go_enter Tryz.func102, Tryz.ntmps102
  go_wp2_with fail
  refine wp_region_hold (fun w' : World => (w'.cell? ⟨bi, k * 3, none⟩ = some (.bool ta.s) ∧ w'.cell? ⟨bi, k * 3 + 1, none⟩ = some (.slice ta.a1 ta.n1 ta.c1) ∧ w'.cell? ⟨bi, k * 3 + 2, none⟩ = some (.slice ta.a2 ta.n2 ta.c2)) ∧ (w'.cell? ⟨bk, k * 3, none⟩ = some (.bool tb.s) ∧ w'.cell? ⟨bk, k * 3 + 1, none⟩ = some (.slice tb.a1 tb.n1 tb.c1) ∧ w'.cell? ⟨bk, k * 3 + 2, none⟩ = some (.slice tb.a2 tb.n2 tb.c2))) (by kernel_rfl) ?_
  have bd0 : Below w1.heap.size w1 w1.drew := (Below.refl _ _).drew
  obtain ⟨Wx, hWx⟩ : ∃ W, w1.drew = W := ⟨_, rfl⟩
  rw [hWx] at bd0 ⊢
  have hC0 : (fun w' : World => (w'.cell? ⟨bi, k * 3, none⟩ = some (.bool ta.s) ∧ w'.cell? ⟨bi, k * 3 + 1, none⟩ = some (.slice ta.a1 ta.n1 ta.c1) ∧ w'.cell? ⟨bi, k * 3 + 2, none⟩ = some (.slice ta.a2 ta.n2 ta.c2)) ∧ (w'.cell? ⟨bk, k * 3, none⟩ = some (.bool tb.s) ∧ w'.cell? ⟨bk, k * 3 + 1, none⟩ = some (.slice tb.a1 tb.n1 tb.c1) ∧ w'.cell? ⟨bk, k * 3 + 2, none⟩ = some (.slice tb.a2 tb.n2 tb.c2))) Wx := unhide HCC _ bd0
  refine wpHold_take (i := 0) (v := ?_) rfl (by kernel_rfl) (by kernel_rfl) (by kernel_rfl) (fun _ _ _ h => h) (Or.inl ⟨by rfl, ?_⟩) hC0 ?_
  rotate_left
  · intro w hSw; clear hSw; go_simp; (try with_reducible rfl)
  (try simp only [List.getElem_toArray, List.getElem_cons_succ, List.getElem_cons_zero])
  (try simp only [Act.put, List.setIfInBounds_toArray, List.set_cons_zero, List.set_cons_succ])
  refine wpHold_take (i := 1) (v := ?_) rfl (by kernel_rfl) (by kernel_rfl) (by kernel_rfl) (fun _ _ _ h => h) (Or.inl ⟨by rfl, ?_⟩) hC0 ?_
  rotate_left
  · intro w hSw; clear hSw; go_simp; (try with_reducible rfl)
  (try simp only [List.getElem_toArray, List.getElem_cons_succ, List.getElem_cons_zero])
  (try simp only [Act.put, List.setIfInBounds_toArray, List.set_cons_zero, List.set_cons_succ])
  refine wpHold_take (i := 2) (v := ?_) rfl (by kernel_rfl) (by kernel_rfl) (by kernel_rfl) (fun _ _ _ h => h) (Or.inl ⟨by rfl, ?_⟩) hC0 ?_
  rotate_left
  · intro w hSw; clear hSw; go_simp; (try with_reducible rfl)
  (try simp only [List.getElem_toArray, List.getElem_cons_succ, List.getElem_cons_zero])
  (try simp only [Act.put, List.setIfInBounds_toArray, List.set_cons_zero, List.set_cons_succ])
  refine wpHold_take (i := 3) (v := ?_) rfl (by kernel_rfl) (by kernel_rfl) (by kernel_rfl) (fun _ _ _ h => h) (Or.inl ⟨by rfl, ?_⟩) hC0 ?_
  rotate_left
  · intro w hSw; (try dsimp only at hSw); obtain ⟨⟨z0, z1, z2⟩, z3, z4, z5⟩ := hSw; go_simp; (try with_reducible rfl)
  (try simp only [List.getElem_toArray, List.getElem_cons_succ, List.getElem_cons_zero])
  (try simp only [Act.put, List.setIfInBounds_toArray, List.set_cons_zero, List.set_cons_succ])
  refine wpHold_take (i := 4) (v := ?_) rfl (by kernel_rfl) (by kernel_rfl) (by kernel_rfl) (fun _ _ _ h => h) (Or.inl ⟨by rfl, ?_⟩) hC0 ?_
  rotate_left
  · intro w hSw; clear hSw; go_simp; (try with_reducible rfl)
  (try simp only [List.getElem_toArray, List.getElem_cons_succ, List.getElem_cons_zero])
  (try simp only [Act.put, List.setIfInBounds_toArray, List.set_cons_zero, List.set_cons_succ])
  refine wpHold_take (i := 5) (v := ?_) rfl (by kernel_rfl) (by kernel_rfl) (by kernel_rfl) (fun _ _ _ h => h) (Or.inl ⟨by rfl, ?_⟩) hC0 ?_
  rotate_left
  · intro w hSw; clear hSw; go_simp; (try with_reducible rfl)
  (try simp only [List.getElem_toArray, List.getElem_cons_succ, List.getElem_cons_zero])
  (try simp only [Act.put, List.setIfInBounds_toArray, List.set_cons_zero, List.set_cons_succ])
  refine wpHold_take (i := 6) (v := ?_) rfl (by kernel_rfl) (by kernel_rfl) (by kernel_rfl) (fun _ _ _ h => h) (Or.inl ⟨by rfl, ?_⟩) hC0 ?_
  rotate_left
  · intro w hSw; clear hSw; go_simp; (try with_reducible rfl)
  (try simp only [List.getElem_toArray, List.getElem_cons_succ, List.getElem_cons_zero])
  (try simp only [Act.put, List.setIfInBounds_toArray, List.set_cons_zero, List.set_cons_succ])
  refine wpHold_take (i := 7) (v := ?_) rfl (by kernel_rfl) (by kernel_rfl) (by kernel_rfl) (fun _ _ _ h => h) (Or.inl ⟨by rfl, ?_⟩) hC0 ?_
  rotate_left
  · intro w hSw; (try dsimp only at hSw); obtain ⟨⟨z0, z1, z2⟩, z3, z4, z5⟩ := hSw; go_simp; (try with_reducible rfl)
  (try simp only [List.getElem_toArray, List.getElem_cons_succ, List.getElem_cons_zero])
  (try simp only [Act.put, List.setIfInBounds_toArray, List.set_cons_zero, List.set_cons_succ])
  refine wpHold_listed (n := 3) (L' := (fun nc nl => #[true, true, true, true, true, true, true, true, decide (1 ≤ nc), nl, false]) 0 false) (by kernel_rfl) (by kernel_rfl) ?_
  refine wpHold_name (fun a0 ha0 => ?_)
  refine chain_one_any 1 (fun nc nl => #[true, true, true, true, true, true, true, true, decide (1 ≤ nc), nl, false]) (fun _ => 8) 9 1 (fun nc nl na W => ∃ s1 s3, na = (a0.put (some 16) s1).put (some 6) s3 ∧ OneJ (M i k / M k k) Wx nc nl W s1 s3) ?_ ?_ ?_ (fun c => rfl) ?_ ?_ ?_ 2 0 false (by omega) (by rfl) _ _ ⟨undef, undef, by subst ha0; rfl, Below.refl _ _, fun h => absurd h (by decide), fun h => by cases h⟩
  · clear ha0
    intro nc nl hnc
    match nc, hnc with
    | 0, _ => cases nl <;> (show (_ : Bool) = _; kernel_rfl)
    | 1, _ => cases nl <;> (show (_ : Bool) = _; kernel_rfl)
  · clear ha0
    intro nc nl hnc
    match nc, hnc with
    | 0, _ => cases nl <;> (intro _; show (_ : Bool) = _; kernel_rfl)
    | 1, _ => cases nl <;> (intro h; first | (show (_ : Bool) = _; kernel_rfl) | exact absurd h (by decide))
  · clear ha0
    intro nc nl hnc
    match nc, hnc with
    | 0, _ => rfl
  · rintro nc nl na wv hnc ⟨s1, s3, rfl, J⟩
    obtain rfl : nc = 0 := by omega
    subst ha0
    refine wpOp_step rfl (fun K hK => ?_)
    (try simp only [Act.put, List.setIfInBounds_toArray, List.set_cons_zero, List.set_cons_succ] at hK ⊢)
    (try simp only [List.getElem_toArray, List.getElem_cons_succ, List.getElem_cons_zero])
    go_simp
    refine (unhide HDV wv (below_step bd0 J.bl)).mono ?_
    rintro e wz ⟨v, rfl, hv, hb⟩
    exact hK _ _ ⟨unhide HCC _ (below_step bd0 (below_step J.bl hb)), v, s3, rfl, below_step J.bl hb, fun _ => hv, fun h => by
      obtain ⟨b, e1, e2, e3⟩ := J.al h
      exact ⟨b, e1, e2.keep hb, e3⟩⟩
  · rintro nc na wv ⟨s1, s3, rfl, J⟩
    subst ha0
    refine wpOp_step rfl (fun K hK => ?_)
    (try simp only [Act.put, List.setIfInBounds_toArray, List.set_cons_zero, List.set_cons_succ] at hK ⊢)
    (try simp only [List.getElem_toArray, List.getElem_cons_succ, List.getElem_cons_zero])
    go_simp
    have hb := alloc_below wv (.cells #[.bool false, .slice none 0 0, .slice none 0 0] 37)
    exact hK _ _ ⟨unhide HCC _ (below_step bd0 (below_step J.bl hb)), s1, .pointer (some ⟨wv.heap.size, 0, none⟩), rfl, below_step J.bl hb, fun h => (J.r1 h).below hb, fun _ => ⟨wv.heap.size, rfl, BoxIs.new (t := zTri) (rat_zero _), J.bl.size⟩⟩
  · rintro na wv ⟨s1, s3, rfl, J⟩
    subst ha0
    obtain ⟨bx, rfl, B10, e10⟩ := J.al rfl
    obtain ⟨tq, rfl, r0⟩ := tri_of (J.r1 (by decide))
    simp only [Tri.val]
    (try simp only [Act.put, List.setIfInBounds_toArray, List.set_cons_zero, List.set_cons_succ])
    have ⟨l0, l1, l2⟩ := B10.free
    have ⟨k0, k1, k2⟩ := B10.cells _ (Below.refl _ _)
    have NB := B10.set r0
    have e10' : w1.heap.size ≤ bx := Nat.le_trans bd0.size e10
    have YB := (((below_step bd0 J.bl).setCell (p := ⟨bx, 0, none⟩) e10' (.bool tq.s)).setCell (p := ⟨bx, 1, none⟩) e10' (.slice tq.a1 tq.n1 tq.c1)).setCell (p := ⟨bx, 2, none⟩) e10' (.slice tq.a2 tq.n2 tq.c2)
    have HG_bx := hide e10'
    have hCn : (fun w' : World => (w'.cell? ⟨bi, k * 3, none⟩ = some (.bool ta.s) ∧ w'.cell? ⟨bi, k * 3 + 1, none⟩ = some (.slice ta.a1 ta.n1 ta.c1) ∧ w'.cell? ⟨bi, k * 3 + 2, none⟩ = some (.slice ta.a2 ta.n2 ta.c2)) ∧ (w'.cell? ⟨bk, k * 3, none⟩ = some (.bool tb.s) ∧ w'.cell? ⟨bk, k * 3 + 1, none⟩ = some (.slice tb.a1 tb.n1 tb.c1) ∧ w'.cell? ⟨bk, k * 3 + 2, none⟩ = some (.slice tb.a2 tb.n2 tb.c2))) _ := unhide HCC _ YB
    obtain ⟨Wbx, hWy⟩ : ∃ W, ((wv.setCell ⟨bx, 0, none⟩ (.bool tq.s)).setCell ⟨bx, 1, none⟩ (.slice tq.a1 tq.n1 tq.c1)).setCell ⟨bx, 2, none⟩ (.slice tq.a2 tq.n2 tq.c2) = W := ⟨_, rfl⟩
    rw [hWy] at NB YB hCn
    have HX_bx := hide NB
    have HY_bx := hide YB
    clear J B10 r0 hC0 YB NB e10'
    refine wpHold_one (k := 10) (by kernel_rfl) rfl (fun K hK => ?_)
    (try simp only [List.getElem_toArray, List.getElem_cons_succ, List.getElem_cons_zero])
    go_simp
    refine hK.out _ _ hCn ?_
    clear hK K
    (try simp only [Act.put, List.setIfInBounds_toArray, List.set_cons_zero, List.set_cons_succ])
    refine wpHold_done (by kernel_rfl) ?_ _
    clear hCn l0 l1 l2 k0 k1 k2 hWy e10 bd0 hWx
    have HM1 := hide ((unhide HM).keep (unhide HY_bx))
    have HNX : Hid (bx ≠ bi) := by
      have a := unhide HG_bx
      have b := unhide HLI
      show _ ≠ _
      omega
    clear HY_bx HCC HDV HM
    go_wp2_with fail
    go_loopw [7] (fun vi wr => ∃ (j : Nat) (us : Nat → List Tri), vi = .int .i64 (j : Int) ∧ k < j ∧ j ≤ m ∧ MatAt w wr G n n m bs us (tk M i k j) ∧ BoxIs wr bx tq (M i k / M k k)) (fun vi _ => m - (intOf vi).toNat)
    case atStart => exact ⟨k + 1, _, by go_num, by omega, by omega, by rw [tk_zero]; exact unhide HM1, unhide HX_bx⟩
    case round =>
      obtain ⟨j, us, rfl, hkj, hjm, hM, hX⟩ := hrel
      clear HM1 HX_bx
      have HM := hide hM
      have HX := hide hX
      by_cases hlt : j < m
      · have ⟨⟨c0, c1, c2⟩, _⟩ := hM.cells (i := i) (j := j) hi hlt
        have ⟨⟨d0, d1, d2⟩, _⟩ := hM.cells (i := k) (j := j) hk hlt
        have ra := hM.rat i j hi hlt
        have rb := hM.rat k j hk hlt
        rw [tk_ahead M (Nat.le_refl j)] at ra
        rw [tk_other M j (Ne.symm hik)] at rb
        obtain ⟨ta, hta⟩ : ∃ t, (us i)[j]! = t := ⟨_, rfl⟩
        obtain ⟨tb, htb⟩ : ∃ t, (us k)[j]! = t := ⟨_, rfl⟩
        rw [hta, unhide HBI] at c0 c1 c2
        rw [hta] at ra
        rw [htb, unhide HBK] at d0 d1 d2
        rw [htb] at rb
        have hli := hM.lt hi
        have hlk := hM.lt hk
        rw [unhide HBI] at hli
        rw [unhide HBK] at hlk
        have HRA := hide ra
        have HCC : Hid (∀ W, Below wr.heap.size wr W → (fun w' : World => (w'.cell? ⟨bi, j * 3, none⟩ = some (.bool ta.s) ∧ w'.cell? ⟨bi, j * 3 + 1, none⟩ = some (.slice ta.a1 ta.n1 ta.c1) ∧ w'.cell? ⟨bi, j * 3 + 2, none⟩ = some (.slice ta.a2 ta.n2 ta.c2)) ∧ (w'.cell? ⟨bx, 0, none⟩ = some (.bool tq.s) ∧ w'.cell? ⟨bx, 1, none⟩ = some (.slice tq.a1 tq.n1 tq.c1) ∧ w'.cell? ⟨bx, 2, none⟩ = some (.slice tq.a2 tq.n2 tq.c2)) ∧ (w'.cell? ⟨bk, j * 3, none⟩ = some (.bool tb.s) ∧ w'.cell? ⟨bk, j * 3 + 1, none⟩ = some (.slice tb.a1 tb.n1 tb.c1) ∧ w'.cell? ⟨bk, j * 3 + 2, none⟩ = some (.slice tb.a2 tb.n2 tb.c2))) W) := fun W hW => by
          refine ⟨?_, ?_, ?_⟩
          · rw [hW.cell (p := ⟨bi, j * 3, none⟩) hli, hW.cell (p := ⟨bi, j * 3 + 1, none⟩) hli, hW.cell (p := ⟨bi, j * 3 + 2, none⟩) hli]; exact ⟨c0, c1, c2⟩
          · exact (unhide HX).cells W hW
          · rw [hW.cell (p := ⟨bk, j * 3, none⟩) hlk, hW.cell (p := ⟨bk, j * 3 + 1, none⟩) hlk, hW.cell (p := ⟨bk, j * 3 + 2, none⟩) hlk]; exact ⟨d0, d1, d2⟩
        have HMU : Hid (∀ W, Below wr.heap.size wr W → Calls Tryz.prog 28 #[.agg #[.bool tq.s, .slice tq.a1 tq.n1 tq.c1, .slice tq.a2 tq.n2 tq.c2], .agg #[.bool tb.s, .slice tb.a1 tb.n1 tb.c1, .slice tb.a2 tb.n2 tb.c2]] W fun e w' => ∃ v, e = .returned v ∧ RatIs w' v (M i k / M k k * M k j) ∧ Below W.heap.size W w') := fun W hW => mulR_any tq.val tb.val _ _ W ((unhide HX).2.below hW) (rb.below hW) (J + J) (unhide HQR) ((unhide HJ k j hk hlt).mono (by omega)) (by omega)
        have HSU : Hid (∀ W v, Below wr.heap.size wr W → RatIs W v (M i k / M k k * M k j) → Calls Tryz.prog 29 #[.agg #[.bool ta.s, .slice ta.a1 ta.n1 ta.c1, .slice ta.a2 ta.n2 ta.c2], v] W fun e w' => ∃ v, e = .returned v ∧ RatIs w' v (M i j - M i k / M k k * M k j) ∧ Below W.heap.size W w') := fun W v hW hv => subR_any ta.val v _ _ W ((unhide HRA).below hW) hv (J + J + J) ((unhide HJ i j hi hlt).mono (by omega)) ((unhide HQR).mul (unhide HJ k j hk hlt)) (by omega)
        have e1 : (j : Int) < (m : Int) := by omega
        have e0 : (0 : Int) ≤ (j : Int) := by omega
        clear hM hX ra rb hta htb c0 c1 c2 d0 d1 d2 hli hlk
        go_wp2_with fail
        refine wp_region_till (fun w' : World => (w'.cell? ⟨bi, j * 3, none⟩ = some (.bool ta.s) ∧ w'.cell? ⟨bi, j * 3 + 1, none⟩ = some (.slice ta.a1 ta.n1 ta.c1) ∧ w'.cell? ⟨bi, j * 3 + 2, none⟩ = some (.slice ta.a2 ta.n2 ta.c2)) ∧ (w'.cell? ⟨bx, 0, none⟩ = some (.bool tq.s) ∧ w'.cell? ⟨bx, 1, none⟩ = some (.slice tq.a1 tq.n1 tq.c1) ∧ w'.cell? ⟨bx, 2, none⟩ = some (.slice tq.a2 tq.n2 tq.c2)) ∧ (w'.cell? ⟨bk, j * 3, none⟩ = some (.bool tb.s) ∧ w'.cell? ⟨bk, j * 3 + 1, none⟩ = some (.slice tb.a1 tb.n1 tb.c1) ∧ w'.cell? ⟨bk, j * 3 + 2, none⟩ = some (.slice tb.a2 tb.n2 tb.c2))) 14 (by kernel_rfl) ?_
        have bd0 : Below wr.heap.size wr wr.drew := (Below.refl _ _).drew
        have hC0 : (fun w' : World => (w'.cell? ⟨bi, j * 3, none⟩ = some (.bool ta.s) ∧ w'.cell? ⟨bi, j * 3 + 1, none⟩ = some (.slice ta.a1 ta.n1 ta.c1) ∧ w'.cell? ⟨bi, j * 3 + 2, none⟩ = some (.slice ta.a2 ta.n2 ta.c2)) ∧ (w'.cell? ⟨bx, 0, none⟩ = some (.bool tq.s) ∧ w'.cell? ⟨bx, 1, none⟩ = some (.slice tq.a1 tq.n1 tq.c1) ∧ w'.cell? ⟨bx, 2, none⟩ = some (.slice tq.a2 tq.n2 tq.c2)) ∧ (w'.cell? ⟨bk, j * 3, none⟩ = some (.bool tb.s) ∧ w'.cell? ⟨bk, j * 3 + 1, none⟩ = some (.slice tb.a1 tb.n1 tb.c1) ∧ w'.cell? ⟨bk, j * 3 + 2, none⟩ = some (.slice tb.a2 tb.n2 tb.c2))) wr.drew := unhide HCC _ bd0
        refine wpTill_pure (i := 0) (v := ?_) rfl (by kernel_rfl) (by kernel_rfl) (by kernel_rfl) (by kernel_rfl) (fun _ _ _ h => h) (Or.inl ⟨by rfl, ?_⟩) (fun _ => hC0) ?_
        rotate_left
        · intro w hSw; clear hSw; go_simp; (try with_reducible rfl)
        (try simp only [List.getElem_toArray, List.getElem_cons_succ, List.getElem_cons_zero])
        (try simp only [Act.put, List.setIfInBounds_toArray, List.set_cons_zero, List.set_cons_succ])
        refine wpTill_pure (i := 1) (v := ?_) rfl (by kernel_rfl) (by kernel_rfl) (by kernel_rfl) (by kernel_rfl) (fun _ _ _ h => h) (Or.inl ⟨by rfl, ?_⟩) (fun _ => hC0) ?_
        rotate_left
        · intro w hSw; clear hSw; go_simp; (try with_reducible rfl)
        (try simp only [List.getElem_toArray, List.getElem_cons_succ, List.getElem_cons_zero])
        (try simp only [Act.put, List.setIfInBounds_toArray, List.set_cons_zero, List.set_cons_succ])
        refine wpTill_pure (i := 2) (v := ?_) rfl (by kernel_rfl) (by kernel_rfl) (by kernel_rfl) (by kernel_rfl) (fun _ _ _ h => h) (Or.inl ⟨by rfl, ?_⟩) (fun _ => hC0) ?_
        rotate_left
        · intro w hSw; clear hSw; go_simp; (try with_reducible rfl)
        (try simp only [List.getElem_toArray, List.getElem_cons_succ, List.getElem_cons_zero])
        (try simp only [Act.put, List.setIfInBounds_toArray, List.set_cons_zero, List.set_cons_succ])
        refine wpTill_pure (i := 3) (v := ?_) rfl (by kernel_rfl) (by kernel_rfl) (by kernel_rfl) (by kernel_rfl) (fun _ _ _ h => h) (Or.inl ⟨by rfl, ?_⟩) (fun _ => hC0) ?_
        rotate_left
        · intro w hSw; clear hSw; go_simp; (try with_reducible rfl)
        (try simp only [List.getElem_toArray, List.getElem_cons_succ, List.getElem_cons_zero])
        (try simp only [Act.put, List.setIfInBounds_toArray, List.set_cons_zero, List.set_cons_succ])
        refine wpTill_pure (i := 4) (v := ?_) rfl (by kernel_rfl) (by kernel_rfl) (by kernel_rfl) (by kernel_rfl) (fun _ _ _ h => h) (Or.inl ⟨by rfl, ?_⟩) (fun _ => hC0) ?_
        rotate_left
        · intro w hSw; clear hSw; go_simp; (try with_reducible rfl)
        (try simp only [List.getElem_toArray, List.getElem_cons_succ, List.getElem_cons_zero])
        (try simp only [Act.put, List.setIfInBounds_toArray, List.set_cons_zero, List.set_cons_succ])
        refine wpTill_take (i := 5) (v := ?_) rfl (by kernel_rfl) (by kernel_rfl) (by kernel_rfl) (by kernel_rfl) (by kernel_rfl) (by kernel_rfl) (fun _ _ _ h => h) (Or.inl ⟨by rfl, ?_⟩) hC0 ?_
        rotate_left
        · intro w hSw; (try dsimp only at hSw); obtain ⟨⟨z0, z1, z2⟩, ⟨z3, z4, z5⟩, z6, z7, z8⟩ := hSw; go_simp; (try with_reducible rfl)
        (try simp only [List.getElem_toArray, List.getElem_cons_succ, List.getElem_cons_zero])
        (try simp only [Act.put, List.setIfInBounds_toArray, List.set_cons_zero, List.set_cons_succ])
        refine wpTill_take (i := 6) (v := ?_) rfl (by kernel_rfl) (by kernel_rfl) (by kernel_rfl) (by kernel_rfl) (by kernel_rfl) (by kernel_rfl) (fun _ _ _ h => h) (Or.inl ⟨by rfl, ?_⟩) hC0 ?_
        rotate_left
        · intro w hSw; (try dsimp only at hSw); obtain ⟨⟨z0, z1, z2⟩, ⟨z3, z4, z5⟩, z6, z7, z8⟩ := hSw; go_simp; (try with_reducible rfl)
        (try simp only [List.getElem_toArray, List.getElem_cons_succ, List.getElem_cons_zero])
        (try simp only [Act.put, List.setIfInBounds_toArray, List.set_cons_zero, List.set_cons_succ])
        refine wpTill_pure (i := 7) (v := ?_) rfl (by kernel_rfl) (by kernel_rfl) (by kernel_rfl) (by kernel_rfl) (fun _ _ _ h => h) (Or.inl ⟨by rfl, ?_⟩) (fun _ => hC0) ?_
        rotate_left
        · intro w hSw; clear hSw; go_simp; (try with_reducible rfl)
        (try simp only [List.getElem_toArray, List.getElem_cons_succ, List.getElem_cons_zero])
        (try simp only [Act.put, List.setIfInBounds_toArray, List.set_cons_zero, List.set_cons_succ])
        refine wpTill_pure (i := 8) (v := ?_) rfl (by kernel_rfl) (by kernel_rfl) (by kernel_rfl) (by kernel_rfl) (fun _ _ _ h => h) (Or.inl ⟨by rfl, ?_⟩) (fun _ => hC0) ?_
        rotate_left
        · intro w hSw; clear hSw; go_simp; (try with_reducible rfl)
        (try simp only [List.getElem_toArray, List.getElem_cons_succ, List.getElem_cons_zero])
        (try simp only [Act.put, List.setIfInBounds_toArray, List.set_cons_zero, List.set_cons_succ])
        refine wpTill_pure (i := 9) (v := ?_) rfl (by kernel_rfl) (by kernel_rfl) (by kernel_rfl) (by kernel_rfl) (fun _ _ _ h => h) (Or.inl ⟨by rfl, ?_⟩) (fun _ => hC0) ?_
        rotate_left
        · intro w hSw; clear hSw; go_simp; (try with_reducible rfl)
        (try simp only [List.getElem_toArray, List.getElem_cons_succ, List.getElem_cons_zero])
        (try simp only [Act.put, List.setIfInBounds_toArray, List.set_cons_zero, List.set_cons_succ])
        refine wpTill_take (i := 10) (v := ?_) rfl (by kernel_rfl) (by kernel_rfl) (by kernel_rfl) (by kernel_rfl) (by kernel_rfl) (by kernel_rfl) (fun _ _ _ h => h) (Or.inl ⟨by rfl, ?_⟩) hC0 ?_
        rotate_left
        · intro w hSw; (try dsimp only at hSw); obtain ⟨⟨z0, z1, z2⟩, ⟨z3, z4, z5⟩, z6, z7, z8⟩ := hSw; go_simp; (try with_reducible rfl)
        (try simp only [List.getElem_toArray, List.getElem_cons_succ, List.getElem_cons_zero])
        (try simp only [Act.put, List.setIfInBounds_toArray, List.set_cons_zero, List.set_cons_succ])
        refine wpTill_one (k := 11) (by kernel_rfl) rfl (fun K hK => ?_)
        (try simp only [List.getElem_toArray, List.getElem_cons_succ, List.getElem_cons_zero])
        go_simp
        refine (unhide HMU _ bd0).mono ?_
        rintro e xw_1 ⟨xv_1, rfl, hv_1, hb_1⟩
        have cc_1 := below_step bd0 hb_1
        have hC_1 : (fun w' : World => (w'.cell? ⟨bi, j * 3, none⟩ = some (.bool ta.s) ∧ w'.cell? ⟨bi, j * 3 + 1, none⟩ = some (.slice ta.a1 ta.n1 ta.c1) ∧ w'.cell? ⟨bi, j * 3 + 2, none⟩ = some (.slice ta.a2 ta.n2 ta.c2)) ∧ (w'.cell? ⟨bx, 0, none⟩ = some (.bool tq.s) ∧ w'.cell? ⟨bx, 1, none⟩ = some (.slice tq.a1 tq.n1 tq.c1) ∧ w'.cell? ⟨bx, 2, none⟩ = some (.slice tq.a2 tq.n2 tq.c2)) ∧ (w'.cell? ⟨bk, j * 3, none⟩ = some (.bool tb.s) ∧ w'.cell? ⟨bk, j * 3 + 1, none⟩ = some (.slice tb.a1 tb.n1 tb.c1) ∧ w'.cell? ⟨bk, j * 3 + 2, none⟩ = some (.slice tb.a2 tb.n2 tb.c2))) xw_1 := unhide HCC _ cc_1
        refine hK.out _ _ (fun _ => hC_1) ?_
        clear hK K
        (try simp only [Act.put, List.setIfInBounds_toArray, List.set_cons_zero, List.set_cons_succ])
        refine wpTill_one (k := 12) (by kernel_rfl) rfl (fun K hK => ?_)
        (try simp only [List.getElem_toArray, List.getElem_cons_succ, List.getElem_cons_zero])
        go_simp
        refine (unhide HSU _ _ cc_1 hv_1).mono ?_
        rintro e xw_2 ⟨xv_2, rfl, hv_2, hb_2⟩
        have cc_2 := below_step cc_1 hb_2
        have hC_2 : (fun w' : World => (w'.cell? ⟨bi, j * 3, none⟩ = some (.bool ta.s) ∧ w'.cell? ⟨bi, j * 3 + 1, none⟩ = some (.slice ta.a1 ta.n1 ta.c1) ∧ w'.cell? ⟨bi, j * 3 + 2, none⟩ = some (.slice ta.a2 ta.n2 ta.c2)) ∧ (w'.cell? ⟨bx, 0, none⟩ = some (.bool tq.s) ∧ w'.cell? ⟨bx, 1, none⟩ = some (.slice tq.a1 tq.n1 tq.c1) ∧ w'.cell? ⟨bx, 2, none⟩ = some (.slice tq.a2 tq.n2 tq.c2)) ∧ (w'.cell? ⟨bk, j * 3, none⟩ = some (.bool tb.s) ∧ w'.cell? ⟨bk, j * 3 + 1, none⟩ = some (.slice tb.a1 tb.n1 tb.c1) ∧ w'.cell? ⟨bk, j * 3 + 2, none⟩ = some (.slice tb.a2 tb.n2 tb.c2))) xw_2 := unhide HCC _ cc_2
        refine hK.out _ _ (fun _ => hC_2) ?_
        clear hK K
        (try simp only [Act.put, List.setIfInBounds_toArray, List.set_cons_zero, List.set_cons_succ])
        refine wpTill_pure (i := 13) (v := ?_) rfl (by kernel_rfl) (by kernel_rfl) (by kernel_rfl) (by kernel_rfl) (fun _ _ _ h => h) (Or.inl ⟨by rfl, ?_⟩) (fun _ => hC_2) ?_
        rotate_left
        · intro w hSw; clear hSw; go_simp; (try with_reducible rfl)
        (try simp only [List.getElem_toArray, List.getElem_cons_succ, List.getElem_cons_zero])
        (try simp only [Act.put, List.setIfInBounds_toArray, List.set_cons_zero, List.set_cons_succ])
        obtain ⟨tn, rfl, rn⟩ := tri_of hv_2
        simp only [Tri.val]
        have S8 := (unhide HM).keep cc_2
        have ⟨⟨y0, y1, y2⟩, l0, l1, l2⟩ := S8.cells (i := i) (j := j) hi hlt
        have FZ := S8.set hi hlt tn _ rn
        rw [tk_next M i k j hkj] at FZ
        have FX := ((unhide HX).keep cc_2).rowed (S8.blk i hi) (by rw [unhide HBI]; exact unhide HNX) (j * 3) (j * 3 + 1) (j * 3 + 2) (.bool tn.s) (.slice tn.a1 tn.n1 tn.c1) (.slice tn.a2 tn.n2 tn.c2)
        rw [unhide HBI] at y0 y1 y2 l0 l1 l2 FZ FX
        obtain ⟨W9, hW9⟩ : ∃ W, ((xw_2.setCell ⟨bi, j * 3, none⟩ (.bool tn.s)).setCell ⟨bi, j * 3 + 1, none⟩ (.slice tn.a1 tn.n1 tn.c1)).setCell ⟨bi, j * 3 + 2, none⟩ (.slice tn.a2 tn.n2 tn.c2) = W := ⟨_, rfl⟩
        rw [hW9] at FZ FX
        have HFM := hide FZ
        have HFX := hide FX
        clear S8 FZ FX rn hv_1 hb_1 hv_2 hb_2
        refine wpTill_one (k := 14) (by kernel_rfl) rfl (fun K hK => ?_)
        (try simp only [List.getElem_toArray, List.getElem_cons_succ, List.getElem_cons_zero])
        go_simp
        refine hK.out _ _ (fun h => absurd (h.symm.trans (by kernel_rfl)) Bool.false_ne_true) ?_
        clear hK K
        (try simp only [Act.put, List.setIfInBounds_toArray, List.set_cons_zero, List.set_cons_succ])
        refine wpTill_done (by kernel_rfl) ?_ _
        clear l0 l1 l2 y0 y1 y2 hW9 hC0 hC_1 hC_2 cc_1 cc_2 bd0 HCC HMU HSU HM HX
        go_wp2_with fail
        exact ⟨⟨j + 1, _, by go_num, by omega, hlt, unhide HFM, unhide HFX⟩, by simp [intOf]; omega⟩
      · obtain rfl : j = m := by omega
        have e1 : ¬ (j : Int) < (j : Int) := by omega
        clear hM hX HX
        go_wp2
        (try simp only [Exit.inBlock, Exit.then])
        (try go_wp2)
        exact bodyPost_end (v := .tuple #[]) (by simp [results, Tryz.results102, go_sem]) rfl ⟨rfl, us, unhide HM⟩


end Go.Proofs.YtjlohghknejjoaaGreatDoor
