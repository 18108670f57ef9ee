/- Nets: Closed, the walk. -/
import Derived.Test.YtdaejkngmckmdaaGreatDoorN14
namespace Go.Proofs.YtdaejkngmckmdaaGreatDoor
open Go.RowKit Go.Sort Go.Shelf

theorem ps_shift (f : Nat → Rat) : ∀ m, Bth.ps f (m + 1) = f 0 + Bth.ps (fun k => f (k + 1)) m
  | 0 => by show (0 : Rat) + f 0 = f 0 + 0; grind
  | m + 1 => by
    have ih := ps_shift f m
    show Bth.ps f (m + 1) + f (m + 1) = f 0 + (Bth.ps (fun k => f (k + 1)) m + f (m + 1))
    rw [ih]; grind
theorem qsum_pn (qs : List Rat) : ∀ k, qsum qs k = Bth.ps (fun j => qs[j]!) k
  | 0 => rfl
  | k + 1 => by show qsum qs k + _ = Bth.ps _ k + _; rw [qsum_pn qs k]
/-- The other places' routes. -/
def oth (ks : List (List Rat)) (m : Nat) : List (List Rat) := (List.range m).map fun i => (ks[i + 1]!).tail
theorem oth_length (ks : List (List Rat)) (m : Nat) : (oth ks m).length = m := by simp [oth]
theorem oth_get {ks : List (List Rat)} {m i : Nat} (h : i < m) : (oth ks m)[i]! = (ks[i + 1]!).tail := by simp [oth, h]
theorem tail_get (qs : List Rat) (j : Nat) : qs.tail[j]! = qs[j + 1]! := by simp
theorem oth_lf {ks : List (List Rat)} {m i : Nat} (h : i < m) (k : Nat) : lf (oth ks m) i k = (ks[i + 1]!)[k + 1]! := by
  unfold lf
  rw [oth_get h, tail_get]
/-- How long one is at each place. -/
def dem (x : Nat → Rat) (ss : List Rat) (m i : Nat) : Rat := qu (((1 : Int) : Rat) :: row x m) ss i
theorem cons_get0 (a : Rat) (qs : List Rat) : (a :: qs)[0]! = a := by simp
theorem cons_gets (a : Rat) (qs : List Rat) (j : Nat) : (a :: qs)[j + 1]! = qs[j]! := by simp
/-- What Closed says. -/
def ClosedPost (w : World) (ks : List (List Rat)) (ss : List Rat) (e : Ending) (w' : World) : Prop :=
  (GoodR ks ((1 : Int) : Rat) ∧ GoodS ss ks.length ∧ ∃ (v : Value) (d : Nat → Rat), e = .returned (.tuple #[v, .nilIface]) ∧ LawIs w' v (row d ks.length) ∧ 0 < d 0 ∧ (∀ i, i < ks.length → 0 ≤ d i) ∧ (∀ i, i < ks.length → RS (d i) (XB + 1)) ∧ Below w.heap.size w w') ∨
  (∃ k : Int, e = .returned (.tuple #[.slice none 0 0, .iface 62 (.int .i64 k)]) ∧ Below w.heap.size w w')
theorem dem_says {ks : List (List Rat)} {ss : List Rat} {m : Nat} {x : Nat → Rat} (hg : GoodR ks ((1 : Int) : Rat)) (hm : ks.length = m + 1) (hgs : GoodS ss ks.length) (sp : SmQ ss) (hx : Lin.Solved m (Net.eqs m (lf (oth ks m)) (bf (ks[0]!).tail)) x) (hr : ∀ i, RS (x i) XB) :
    0 < dem x ss m 0 ∧ (∀ i, i < ks.length → 0 ≤ dem x ss m i) ∧ ∀ i, i < ks.length → RS (dem x ss m i) (XB + 1) := by
  have pos : ∀ i, i < ks.length → 0 < ss[i]! := fun i hi => hgs.2 i (by rw [hgs.1]; exact hi)
  have xn := Net.visits_nn hx (fun i k hi hk => by
    rw [oth_lf hi]
    exact (hg.2.2 (i + 1) (by omega)).2.1 (k + 1) (by rw [(hg.2.2 (i + 1) (by omega)).1]; omega)) (fun i hi => by
    have a := (hg.2.2 (i + 1) (by omega)).2.2.2
    rw [qsum_pn, hm, ps_shift] at a
    have b := (hg.2.2 (i + 1) (by omega)).2.1 0 (by rw [(hg.2.2 (i + 1) (by omega)).1]; omega)
    have c : Bth.ps (fun k => lf (oth ks m) i k) m = Bth.ps (fun k => (ks[i + 1]!)[k + 1]!) m := Bth.ps_congr m (fun k _ => oth_lf hi k)
    rw [c]
    generalize Bth.ps (fun k => (ks[i + 1]!)[k + 1]!) m = s at *
    generalize (ks[i + 1]!)[0]! = t at *
    clear hx hr hg hgs sp pos
    grind) (fun k hk => by
    show 0 ≤ (ks[0]!).tail[k]!
    rw [tail_get]
    exact (hg.2.2 0 (by omega)).2.1 (k + 1) (by rw [(hg.2.2 0 (by omega)).1]; omega))
  have num : ∀ i, i < ks.length → 0 ≤ (((1 : Int) : Rat) :: row x m)[i]! ∧ RS (((1 : Int) : Rat) :: row x m)[i]! XB := fun i hi => by
    cases i with
    | zero => rw [cons_get0]; exact ⟨by decide, onei_RS.mono (by decide)⟩
    | succ j => rw [cons_gets, row_get (by omega)]; exact ⟨xn j (by omega), hr j⟩
  refine ⟨?_, fun i hi => ?_, fun i hi => ?_⟩
  · unfold dem qu
    rw [cons_get0]
    exact Bth.div_ps (by decide) (pos 0 (by omega))
  · unfold dem qu
    exact Bth.div_nn (num i hi).1 (pos i hi)
  · unfold dem qu
    exact (num i hi).2.div' (sp.2 i (by rw [hgs.1]; exact hi)) (fun z => by have p := pos i hi; rw [Rat.num_eq_zero.1 z] at p; exact absurd p (by decide))

set_option maxHeartbeats 8000000 in
set_option maxRecDepth 100000 in
set_option linter.unusedSimpArgs false in
theorem closed_any (vl vs : Value) (ks : List (List Rat)) (ss : List Rat) (w : World) (h : RowsAre w vl ks) (hs : LawIs w vs ss) (sm : SmR ks) (sp : SmQ ss) :
    Calls Tryz.prog 19 #[vl, vs] w (ClosedPost w ks ss) := by
  have KKe : KK = 1099511627776 := rfl
  have HV := hide h
  have HS := hide hs
  have HSM := hide sm
  have HSP := hide sp
  have hkl := sm.1
  obtain ⟨a, c, rfl, h1, h2, h3⟩ := h
  obtain ⟨a2, c2, rfl, s1, s2, s3⟩ := hs
  have H3 := hide h3
  clear h3 s3 sm sp
  go_enter Tryz.func19, Tryz.ntmps19
  go_wp2_with fail
  refine (whole_any 1 (by decide) (by decide) w).mono ?_
  rintro e w1 ⟨v1, rfl, hv1, hb1⟩
  have HV1 := hide hv1
  have HB1 := hide hb1
  clear hv1 hb1
  go_wp2_with fail
  refine (checkRoutes_any _ _ ks _ w1 ((unhide HV).below (unhide HB1)) (unhide HV1) onei_RS (unhide HSM).1 (unhide HSM).2.2 (unhide HSM).2.1).mono ?_
  rintro e w2 ⟨(⟨hg, rfl⟩ | ⟨hg, k, rfl⟩), hb2⟩
  rotate_left
  · clear hg
    have HBX := hide (below_step (unhide HB1) hb2)
    clear hb2 HB1
    go_wp2
    go_ret2
    exact Or.inr ⟨_, rfl, unhide HBX⟩
  have HG := hide hg
  have HB2 := hide (below_step (unhide HB1) hb2)
  obtain ⟨n, hn⟩ : ∃ n, ks.length = n := ⟨_, rfl⟩
  have HNE := hide hn
  have hn5 : n ≤ 5 := by have := hg.2.1; omega
  have hn0 : 0 < n := by have := hg.1; omega
  obtain ⟨m, hm⟩ : ∃ m, n = m + 1 := ⟨n - 1, by omega⟩
  have HM := hide hm
  have hm4 : m ≤ 4 := by omega
  rw [hn] at h1 hkl ⊢
  have H3n : Hid (0 < n → ∃ b o, a = some ⟨b, o, none⟩ ∧ b < w.heap.size ∧ ∀ j, j < n → ∃ l : Sl, w.cell? ⟨b, o + j, none⟩ = some (.slice l.a l.n l.c) ∧ LawIs w l.val ks[j]!) := by rw [← hn]; exact unhide H3
  have HRL : Hid (∀ j, j < n → (ks[j]!).length = n) := fun j hj => by have := (hg.2.2 j (by omega)).1; omega
  have HN0 := hide hn0
  clear hg hb2 HB1 HV1 hn hm H3 hn0
  go_wp2_with fail
  refine (checkSpeeds_any _ ss n w2 ((unhide HS).below (unhide HB2)) (by omega)).mono ?_
  rintro e w3 ⟨(⟨hgs, rfl⟩ | ⟨hgs, k, rfl⟩), hb3⟩
  rotate_left
  · clear hgs
    have HBX := hide (below_step (unhide HB2) hb3)
    clear hb3 HB2
    go_wp2
    go_ret2
    exact Or.inr ⟨_, rfl, unhide HBX⟩
  have HGS := hide hgs
  have HB3 := hide (below_step (unhide HB2) hb3)
  clear hgs hb3 HB2
  have qmk := make_rows ((n : Int) - 1) (by have := unhide HM; omega) (by omega) (fun _ => (none, 0, 0)) w3
  have etn : ((n : Int) - 1).toNat = m := by have := unhide HM; omega
  rw [etn] at qmk
  have S0 : HdAt w (w3.alloc (.cells (hdl m 0 (fun _ => (none, 0, 0))).toArray 26)) w3.heap.size m 0 (fun _ => (none, 0, 0)) := ⟨heap_alloc_new w3 _, (unhide HB3).size, below_step (unhide HB3) (alloc_below w3 _)⟩
  obtain ⟨W0, hW0⟩ : ∃ W, w3.alloc (.cells (hdl m 0 (fun _ => ((none, 0, 0) : Sl))).toArray 26) = W := ⟨_, rfl⟩
  obtain ⟨G, hG⟩ : ∃ G, w3.heap.size = G := ⟨_, rfl⟩
  rw [hW0, hG] at qmk S0
  have HS0 := hide S0
  obtain ⟨bL, oL, eL, hbL, hcL⟩ := unhide H3n (unhide HN0)
  subst eL
  have HCL := hide hcL
  have HBL := hide hbL
  clear S0 hW0 hG etn hcL hbL
  go_wp2_with fail
  clear qmk
  go_loopw [31] (fun vi wr => ∃ (i : Nat) (ls : Nat → Sl), vi = .int .i64 (i : Int) ∧ i ≤ m ∧ HdAt w wr G m i ls ∧ ∀ j, j < i → LawIs w (ls j).val (ks[j + 1]!).tail) (fun vi _ => m - (intOf vi).toNat)
  case atStart => exact ⟨0, _, rfl, Nat.zero_le _, unhide HS0, fun j hj => absurd hj (Nat.not_lt_zero _)⟩
  case round =>
    obtain ⟨i, ls, rfl, hi, hD, hL⟩ := hrel
    clear HS0
    have HDD := hide hD
    have HLL := hide hL
    by_cases hlt : i < m
    · obtain ⟨l, k0, hl⟩ := unhide HCL (i + 1) (by have := unhide HM; omega)
      rw [← hD.bl.cell (p := ⟨bL, oL + (i + 1), none⟩) (unhide HBL)] at k0
      have hln : (ks[i + 1]!).length = n := unhide HRL (i + 1) (by have := unhide HM; omega)
      obtain ⟨la, ln, lc⟩ := l
      have hl' : LawIs w (.slice la ln lc) ks[i + 1]! := hl
      obtain ⟨a', c', e', g1, g2, g3⟩ := id hl'
      injection e' with x1 x2 x3
      obtain ⟨bl, ol, y1, hbl, hcl⟩ := g3 (by have := unhide HM; omega)
      subst x1 x2 x3
      subst y1
      have hlc : n ≤ lc := by omega
      have ht := law_tail hl' (by have := unhide HM; omega)
      rw [hln] at ht
      replace k0 : wr.cell? ⟨bL, oL + (i + 1), none⟩ = some (.slice (some ⟨bl, ol, none⟩) (ks[i + 1]!).length lc) := k0
      rw [hln] at k0
      have HT := hide ht
      have kz := hdl_cell0 hD.out (Nat.le_refl i) hlt
      have kf := hdl_free hD.out i
      have e1 : (i : Int) < (m : Int) := by omega
      have e0 : (0 : Int) ≤ (i : Int) := by omega
      have e2 : (i : Int) + 1 < (n : Int) := by have := unhide HM; omega
      have e4 : lc ≠ 1 := by have := unhide HM; omega
      have e5 : (1 : Int) ≤ (n : Int) := by omega
      have e6 : ((i : Int) + 1).toNat = i + 1 := by omega
      have FN := hD.push (some ⟨bl, ol + 3, none⟩, n - 1, lc - 1)
      obtain ⟨W9, hW9⟩ : ∃ W, wr.setCell ⟨G, i, none⟩ (.slice (some ⟨bl, ol + 3, none⟩) (n - 1) (lc - 1)) = W := ⟨_, rfl⟩
      rw [show wr.setCell ⟨G, i, none⟩ (.slice (Sl.a (some ⟨bl, ol + 3, none⟩, n - 1, lc - 1)) (Sl.n (some ⟨bl, ol + 3, none⟩, n - 1, lc - 1)) (Sl.c (some ⟨bl, ol + 3, none⟩, n - 1, lc - 1))) = W9 from hW9] at FN
      have HFN := hide FN
      clear hD hL hl hl' hln g1 g2 g3 hcl ht FN
      go_wp2_with fail
      refine ⟨⟨i + 1, _, by go_num, hlt, unhide HFN, fun j hj => ?_⟩, by simp [intOf]; omega⟩
      unfold upl
      by_cases e : j = i
      · rw [if_pos e, e]; exact unhide HT
      · rw [if_neg e]; exact unhide HLL j (by omega)
    · obtain rfl : m = i := by omega
      have e1 : ¬ (m : Int) < (m : Int) := by omega
      obtain ⟨l, k0, hl⟩ := unhide HCL 0 (unhide HN0)
      rw [← hD.bl.cell (p := ⟨bL, oL + 0, none⟩) (unhide HBL), Nat.add_zero] at k0
      have hln : (ks[0]!).length = n := unhide HRL 0 (unhide HN0)
      have HRW := hide (hD.rows (ks := oth ks m) (oth_length _ _) (by omega) (fun i hi => by rw [oth_get hi]; exact (hL i hi).below hD.bl))
      have HBD := hide hD.bl
      obtain ⟨la, ln, lc⟩ := l
      have hl' : LawIs w (.slice la ln lc) ks[0]! := hl
      obtain ⟨a', c', e', g1, g2, g3⟩ := id hl'
      injection e' with x1 x2 x3
      obtain ⟨bl, ol, y1, hbl, hcl⟩ := g3 (by have := unhide HN0; omega)
      subst x1 x2 x3
      subst y1
      replace k0 : wr.cell? ⟨bL, oL, none⟩ = some (.slice (some ⟨bl, ol, none⟩) (ks[0]!).length lc) := k0
      rw [hln] at k0 g1
      have HVI : Hid (∀ W a c, Below w.heap.size w W → RowsAre W (.slice (some ⟨G, 0, none⟩) m m) (oth ks m) → LawIs W (.slice a m c) (ks[0]!).tail → Calls Tryz.prog 42 #[.slice a m c, .slice (some ⟨G, 0, none⟩) m m] W (VisitsPost W m (lf (oth ks m)) (bf (ks[0]!).tail))) := fun W a c hW hR hT => visits_any _ _ (oth ks m) (ks[0]!).tail W m hR hT (oth_length _ _) (fun j hj => by rw [oth_get hj, List.length_tail, unhide HRL (j + 1) (by have := unhide HM; omega)]; have := unhide HM; omega) (by rw [List.length_tail, unhide HRL 0 (unhide HN0)]; have := unhide HM; omega) (by omega) (fun i k hi hk => by
        rw [oth_lf hi]
        exact (unhide HSM).2.2 (i + 1) (k + 1) (by have := unhide HM; have := unhide HNE; omega) (by rw [unhide HRL (i + 1) (by have := unhide HM; omega)]; have := unhide HM; omega)) (fun k hk => by
        show RS (ks[0]!).tail[k]! 1
        rw [tail_get]
        exact (unhide HSM).2.2 0 (k + 1) (by have := unhide HN0; have := unhide HNE; omega) (by rw [unhide HRL 0 (unhide HN0)]; have := unhide HM; omega))
      have HL0 := hide hl'
      by_cases hm0 : m = 0
      · subst hm0
        have hlt0 : (ks[0]!).tail = [] := by
          apply List.eq_nil_of_length_eq_zero
          rw [List.length_tail, hln]
          have := unhide HM
          omega
        have HLT0 := hide hlt0
        have em : n - 1 = 0 := by have := unhide HM; omega
        have HEM := hide em
        have hcb : lc ≤ 9223372036854775807 := by omega
        have e5 : (1 : Int) ≤ (n : Int) := by have := unhide HN0; omega
        have hn0 : 0 < n := unhide HN0
        clear hD hL hl hl' hln g2 g3 hcl hlt0 em
        by_cases hc1 : lc = 1
        · subst hc1
          go_wp2_with fail
          (try simp only [Exit.inBlock, Exit.then])
          (try go_wp2_with fail)
          refine (unhide HVI wr _ _ (unhide HBD) (unhide HRW) (by rw [unhide HLT0]; exact law_none _ _ _ (by omega))).mono ?_
          rintro e w5 (⟨v5, x, rfl, hv5, hx, hxr, hb5⟩ | ⟨hy, rfl, hb5⟩)
          rotate_left
          · clear hy
            have HBX := hide (below_step (unhide HBD) hb5)
            clear hb5
            go_wp2
            go_ret2
            exact Or.inr ⟨_, rfl, unhide HBX⟩
          have HXX := hide hx
          have HXR := hide hxr
          have HB5 := hide (below_step (unhide HBD) hb5)
          obtain ⟨a5, c5, rfl, _, _, _⟩ := hv5
          rw [row_length]
          clear hx hxr hb5 HVI
          go_wp2_with fail
          refine (whole_any 1 (by decide) (by decide) w5).mono ?_
          rintro e w6 ⟨v6, rfl, hv6, hb6⟩
          obtain ⟨t6, rfl, ht6⟩ := tri_of hv6
          simp only [Tri.val]
          have bA := alloc_below w6 (.cells #[.bool t6.s, .slice t6.a1 t6.n1 t6.c1, .slice t6.a2 t6.n2 t6.c2] 39)
          have hnew := heap_alloc_new w6 (.cells #[.bool t6.s, .slice t6.a1 t6.n1 t6.c1, .slice t6.a2 t6.n2 t6.c2] 39)
          have HB6 := hide (below_step (unhide HB5) (below_step hb6 bA))
          have own6 : (w6.alloc (.cells #[.bool t6.s, .slice t6.a1 t6.n1 t6.c1, .slice t6.a2 t6.n2 t6.c2] 39)).ownsRow w6.heap.size 39 3 (.slice (some ⟨w6.heap.size, 0, none⟩) 1 1) [t6].length (tcells [t6]) := ⟨rfl, Or.inr ⟨w6.heap.size, 1, _, rfl, Nat.le_refl _, hnew, Nat.le_refl _, by decide, rfl, rfl⟩⟩
          have LW := law_of_owns (qs := ((1 : Int) : Rat) :: row x 0) own6 rfl (fun j hj => by
            have hj' : j = 0 := by simpa using hj
            subst hj'
            exact ht6.below bA)
          obtain ⟨ti, hti, hz0, hz1, hz2⟩ := info_parts Tryz.infoR
          obtain ⟨W6, hW6⟩ : ∃ W, w6.alloc (.cells #[.bool t6.s, .slice t6.a1 t6.n1 t6.c1, .slice t6.a2 t6.n2 t6.c2] 39) = W := ⟨_, rfl⟩
          obtain ⟨g6, hg6⟩ : ∃ g, w6.heap.size = g := ⟨_, rfl⟩
          rw [hW6, hg6] at LW
          rw [hW6] at HB6
          have DS := dem_says (m := 0) (unhide HG) (by rw [unhide HNE]; exact unhide HM) (by rw [unhide HNE]; exact unhide HGS) (unhide HSP) (unhide HXX) (unhide HXR)
          have HDS := hide DS
          have HQU := hide (quotients_any _ _ (((1 : Int) : Rat) :: row x 0) ss n XB W6 LW ((unhide HS).below (unhide HB6)) (by rw [List.length_cons, row_length]; exact (unhide HM).symm) (unhide HGS).1 (by omega) (unhide HGS).2 (fun i hi => ⟨by
            obtain rfl : i = 0 := by have := unhide HM; omega
            rw [cons_get0]; exact onei_RS.mono (by decide), ((unhide HSP).2 i (by rw [(unhide HGS).1]; exact hi)).mono (by decide)⟩) (by rw [KKe]; decide))
          have HTI := hide hti
          clear hv6 hb6 ht6 bA hnew own6 LW DS hti hz0 hz1 hz2
          go_wp2_with (at_builtin; go_loud (refine wpList_append_none _ rfl _ _ _ rfl 39 ti Tryz.underlying26 (unhide HTI) ⟨g6, 0, none⟩ 1 1 (Nat.le_refl _) rfl a5 c5 rfl ?_))
          go_wp2_with fail
          refine (unhide HQU).mono ?_
          rintro e w8 ⟨v8, rfl, hv8, hb8⟩
          have HV8 := hide hv8
          obtain ⟨a8, c8, rfl, _, _, _⟩ := hv8
          have HB8 := hide (below_step (unhide HB6) hb8)
          clear hb8 HQU
          go_wp2
          go_ret2
          refine Or.inl ⟨unhide HG, by rw [unhide HNE]; exact unhide HGS, _, dem x ss 0, rfl, ?_, (unhide HDS).1, (unhide HDS).2.1, (unhide HDS).2.2, unhide HB8⟩
          rw [unhide HNE]
          exact unhide HV8
        · go_wp2_with fail
          (try simp only [Exit.inBlock, Exit.then])
          (try go_wp2_with fail)
          rw [unhide HEM]
          refine (unhide HVI wr _ _ (unhide HBD) (unhide HRW) (by rw [unhide HLT0]; exact law_none _ _ _ (by omega))).mono ?_
          rintro e w5 (⟨v5, x, rfl, hv5, hx, hxr, hb5⟩ | ⟨hy, rfl, hb5⟩)
          rotate_left
          · clear hy
            have HBX := hide (below_step (unhide HBD) hb5)
            clear hb5
            go_wp2
            go_ret2
            exact Or.inr ⟨_, rfl, unhide HBX⟩
          have HXX := hide hx
          have HXR := hide hxr
          have HB5 := hide (below_step (unhide HBD) hb5)
          obtain ⟨a5, c5, rfl, _, _, _⟩ := hv5
          rw [row_length]
          clear hx hxr hb5 HVI
          go_wp2_with fail
          refine (whole_any 1 (by decide) (by decide) w5).mono ?_
          rintro e w6 ⟨v6, rfl, hv6, hb6⟩
          obtain ⟨t6, rfl, ht6⟩ := tri_of hv6
          simp only [Tri.val]
          have bA := alloc_below w6 (.cells #[.bool t6.s, .slice t6.a1 t6.n1 t6.c1, .slice t6.a2 t6.n2 t6.c2] 39)
          have hnew := heap_alloc_new w6 (.cells #[.bool t6.s, .slice t6.a1 t6.n1 t6.c1, .slice t6.a2 t6.n2 t6.c2] 39)
          have HB6 := hide (below_step (unhide HB5) (below_step hb6 bA))
          have own6 : (w6.alloc (.cells #[.bool t6.s, .slice t6.a1 t6.n1 t6.c1, .slice t6.a2 t6.n2 t6.c2] 39)).ownsRow w6.heap.size 39 3 (.slice (some ⟨w6.heap.size, 0, none⟩) 1 1) [t6].length (tcells [t6]) := ⟨rfl, Or.inr ⟨w6.heap.size, 1, _, rfl, Nat.le_refl _, hnew, Nat.le_refl _, by decide, rfl, rfl⟩⟩
          have LW := law_of_owns (qs := ((1 : Int) : Rat) :: row x 0) own6 rfl (fun j hj => by
            have hj' : j = 0 := by simpa using hj
            subst hj'
            exact ht6.below bA)
          obtain ⟨ti, hti, hz0, hz1, hz2⟩ := info_parts Tryz.infoR
          obtain ⟨W6, hW6⟩ : ∃ W, w6.alloc (.cells #[.bool t6.s, .slice t6.a1 t6.n1 t6.c1, .slice t6.a2 t6.n2 t6.c2] 39) = W := ⟨_, rfl⟩
          obtain ⟨g6, hg6⟩ : ∃ g, w6.heap.size = g := ⟨_, rfl⟩
          rw [hW6, hg6] at LW
          rw [hW6] at HB6
          have DS := dem_says (m := 0) (unhide HG) (by rw [unhide HNE]; exact unhide HM) (by rw [unhide HNE]; exact unhide HGS) (unhide HSP) (unhide HXX) (unhide HXR)
          have HDS := hide DS
          have HQU := hide (quotients_any _ _ (((1 : Int) : Rat) :: row x 0) ss n XB W6 LW ((unhide HS).below (unhide HB6)) (by rw [List.length_cons, row_length]; exact (unhide HM).symm) (unhide HGS).1 (by omega) (unhide HGS).2 (fun i hi => ⟨by
            obtain rfl : i = 0 := by have := unhide HM; omega
            rw [cons_get0]; exact onei_RS.mono (by decide), ((unhide HSP).2 i (by rw [(unhide HGS).1]; exact hi)).mono (by decide)⟩) (by rw [KKe]; decide))
          have HTI := hide hti
          clear hv6 hb6 ht6 bA hnew own6 LW DS hti hz0 hz1 hz2
          go_wp2_with (at_builtin; go_loud (refine wpList_append_none _ rfl _ _ _ rfl 39 ti Tryz.underlying26 (unhide HTI) ⟨g6, 0, none⟩ 1 1 (Nat.le_refl _) rfl a5 c5 rfl ?_))
          go_wp2_with fail
          refine (unhide HQU).mono ?_
          rintro e w8 ⟨v8, rfl, hv8, hb8⟩
          have HV8 := hide hv8
          obtain ⟨a8, c8, rfl, _, _, _⟩ := hv8
          have HB8 := hide (below_step (unhide HB6) hb8)
          clear hb8 HQU
          go_wp2
          go_ret2
          refine Or.inl ⟨unhide HG, by rw [unhide HNE]; exact unhide HGS, _, dem x ss 0, rfl, ?_, (unhide HDS).1, (unhide HDS).2.1, (unhide HDS).2.2, unhide HB8⟩
          rw [unhide HNE]
          exact unhide HV8
      · have ht := (law_tail hl' (by have := unhide HM; omega)).below hD.bl
        have em : n - 1 = m := by have := unhide HM; omega
        rw [hln, em] at ht
        have HT := hide ht
        have HEM := hide em
        have e4 : lc ≠ 1 := by have := unhide HM; omega
        have e5 : (1 : Int) ≤ (n : Int) := by omega
        have hn0 : 0 < n := unhide HN0
        have HMZ := hide hm0
        clear hD hL hl hl' hln g1 g2 g3 hcl ht hm0 em
        go_wp2_with fail
        (try simp only [Exit.inBlock, Exit.then])
        (try go_wp2_with fail)
        rw [unhide HEM]
        refine (unhide HVI wr _ _ (unhide HBD) (unhide HRW) (unhide HT)).mono ?_
        rintro e w5 (⟨v5, x, rfl, hv5, hx, hxr, hb5⟩ | ⟨hy, rfl, hb5⟩)
        rotate_left
        · clear hy
          have HBX := hide (below_step (unhide HBD) hb5)
          clear hb5
          go_wp2
          go_ret2
          exact Or.inr ⟨_, rfl, unhide HBX⟩
        have HXX := hide hx
        have HXR := hide hxr
        have HB5 := hide (below_step (unhide HBD) hb5)
        obtain ⟨l5, rfl, hv5b, hl5n⟩ := sl_of hv5
        rw [row_length] at hl5n
        obtain ⟨b5, o5, c5, ts, hle, hb5l, htl, htc, htr⟩ := law_tris hv5b (by rw [row_length]; have := unhide HMZ; omega)
        rw [row_length] at hle htl
        subst hle
        simp only [Sl.val]
        have HTC := hide htc
        have HTR := hide htr
        have HTL := hide htl
        have HB5L := hide hb5l
        clear hx hxr hb5 hv5 hv5b hl5n hb5l htl htc htr HVI
        go_wp2_with fail
        refine (whole_any 1 (by decide) (by decide) w5).mono ?_
        rintro e w6 ⟨v6, rfl, hv6, hb6⟩
        obtain ⟨t6, rfl, ht6⟩ := tri_of hv6
        simp only [Tri.val]
        have bA := alloc_below w6 (.cells #[.bool t6.s, .slice t6.a1 t6.n1 t6.c1, .slice t6.a2 t6.n2 t6.c2] 39)
        have hnew := heap_alloc_new w6 (.cells #[.bool t6.s, .slice t6.a1 t6.n1 t6.c1, .slice t6.a2 t6.n2 t6.c2] 39)
        have hsz : (w6.alloc (.cells #[.bool t6.s, .slice t6.a1 t6.n1 t6.c1, .slice t6.a2 t6.n2 t6.c2] 39)).heap.size = w6.heap.size + 1 := alloc_size _ _
        have b56 := below_step hb6 bA
        have HB6 := hide (below_step (unhide HB5) b56)
        have own6 : (w6.alloc (.cells #[.bool t6.s, .slice t6.a1 t6.n1 t6.c1, .slice t6.a2 t6.n2 t6.c2] 39)).ownsRow w6.heap.size 39 3 (.slice (some ⟨w6.heap.size, 0, none⟩) 1 1) 1 (tcells [t6]) := ⟨rfl, Or.inr ⟨w6.heap.size, 1, _, rfl, Nat.le_refl _, hnew, Nat.le_refl _, by decide, rfl, rfl⟩⟩
        have no6 : ∀ g, (Value.slice (some ⟨w6.heap.size, 0, none⟩) 1 1).ownBlock = some g → Wordless (w6.alloc (.cells #[.bool t6.s, .slice t6.a1 t6.n1 t6.c1, .slice t6.a2 t6.n2 t6.c2] 39)) g := fun g hg => by
          have : w6.heap.size = g := Option.some.inj hg
          subst this
          exact wordless_of hnew (fun u hu => tcells_notWord [t6] u (by simpa [tcells, Tri.cells] using hu))
        have r6 := ht6.below bA
        obtain ⟨ti, hti, hz0, hz1, hz2⟩ := info_parts Tryz.infoR
        obtain ⟨W6, hW6⟩ : ∃ W, w6.alloc (.cells #[.bool t6.s, .slice t6.a1 t6.n1 t6.c1, .slice t6.a2 t6.n2 t6.c2] 39) = W := ⟨_, rfl⟩
        obtain ⟨g6, hg6⟩ : ∃ g, w6.heap.size = g := ⟨_, rfl⟩
        rw [hW6, hg6] at own6 hsz
        rw [hg6] at no6
        rw [hW6] at no6 r6 HB6 b56
        have news6 : ∀ j v, (tcells ts)[j]? = some v → W6.cell? ((⟨b5, o5, none⟩ : Addr).add j) = some v := fun j v hv => by
          have k := (b56.cell (p := ⟨b5, o5 + j, none⟩) (unhide HB5L)).trans (unhide HTC j v hv)
          by_cases hj0 : j = 0
          · subst hj0; simpa [Addr.add] using k
          · simpa [Addr.add, hj0] using k
        have HOW := hide own6
        have HNO := hide no6
        have HR6 := hide r6
        have HTI := hide hti
        have HZ0 := hide hz0
        have HNW := hide news6
        have HSZ := hide hsz
        have HTR6 : Hid (∀ j, j < (row x m).length → RatIs W6 (ts[j]!).val (row x m)[j]!) := fun j hj => (unhide HTR j hj).below b56
        have HL1 : Hid ((tcells ts).length = m * 3) := by show _ = _; rw [tcells_length, unhide HTL]
        have HM0 : Hid (0 < m) := by show _ < _; have := unhide HMZ; omega
        have HLX : Hid (1 + m ≤ maxLen) := by show _ ≤ _; unfold maxLen; omega
        have HBY : Hid ((1 + m) * 56 ≤ 140737488355328) := by show _ ≤ _; omega
        have HGB : Hid (g6 ≤ W6.heap.size) := by show _ ≤ _; omega
        have HG6 : Hid (w.heap.size ≤ g6) := by show _ ≤ _; rw [← hg6]; exact (below_step (unhide HB5) hb6).size
        clear hv6 hb6 ht6 bA hnew hsz b56 own6 no6 r6 hti hz0 news6
        go_wp2_with (at_builtin; go_loud (refine wpList_append_tri _ rfl _ _ _ rfl g6 39 ti 56 Tryz.underlying26 (unhide HTI) (unhide HZ0) hz1 hz2 _ 1 (tcells [t6]) rfl (unhide HOW) (unhide HNO) ⟨b5, o5, none⟩ m c5 (tcells ts) rfl (unhide HL1) (unhide HNW) (tcells_one ts) (tcells_notWord ts) (unhide HM0) (unhide HLX) (unhide HBY) (unhide HGB) (g6 + 1) (unhide HSZ) ?_; intro g7 cap7 w7 own7 grow7 hat7 hlt7 hno7))
        have e7 : (t6 :: ts).length = 1 + m := by rw [List.length_cons, unhide HTL]; omega
        have own7' : w7.ownsRow g6 39 3 (.slice (some ⟨g7, 0, none⟩) (1 + m) cap7) (t6 :: ts).length (tcells (t6 :: ts)) := by
          rw [e7, show t6 :: ts = [t6] ++ ts from rfl, tcells_two]; exact own7
        have LW := law_of_owns (qs := ((1 : Int) : Rat) :: row x m) own7' (by rw [e7, List.length_cons, row_length]; omega) (fun j hj => by
          cases j with
          | zero => rw [cons_get0]; exact (unhide HR6).far grow7 (unhide HNO)
          | succ j =>
            rw [cons_gets]
            have hj' : j < m := by rw [e7] at hj; omega
            have eg : (t6 :: ts)[j + 1]! = ts[j]! := by simp
            rw [eg]
            exact (unhide HTR6 j (by rw [row_length]; exact hj')).far grow7 (unhide HNO))
        have B7 := Below.grown (unhide HB6) grow7 (unhide HB6).size (fun k hk => by have : g6 = k := Option.some.inj hk; rw [← this]; exact unhide HG6)
        have DS := dem_says (unhide HG) (by rw [unhide HNE]; exact unhide HM) (by rw [unhide HNE]; exact unhide HGS) (unhide HSP) (unhide HXX) (unhide HXR)
        have HDS := hide DS
        have HQU := hide (quotients_any _ _ (((1 : Int) : Rat) :: row x m) ss n XB w7 LW ((unhide HS).below B7) (by rw [List.length_cons, row_length]; exact (unhide HM).symm) (unhide HGS).1 (by omega) (unhide HGS).2 (fun i hi => ⟨by
          cases i with
          | zero => rw [cons_get0]; exact onei_RS.mono (by decide)
          | succ j => rw [cons_gets, row_get (by have := unhide HM; omega)]; exact unhide HXR j, ((unhide HSP).2 i (by rw [(unhide HGS).1]; exact hi)).mono (by decide)⟩) (by rw [KKe]; decide))
        have HB7 := hide B7
        clear own7 own7' grow7 hat7 hno7 LW B7 DS e7
        go_wp2_with fail
        refine (unhide HQU).mono ?_
        rintro e w8 ⟨v8, rfl, hv8, hb8⟩
        have HV8 := hide hv8
        obtain ⟨a8, c8, rfl, _, _, _⟩ := hv8
        have HB8 := hide (below_step (unhide HB7) hb8)
        clear hb8 HQU
        go_wp2
        go_ret2
        refine Or.inl ⟨unhide HG, by rw [unhide HNE]; exact unhide HGS, _, dem x ss m, rfl, ?_, (unhide HDS).1, (unhide HDS).2.1, (unhide HDS).2.2, unhide HB8⟩
        rw [unhide HNE]
        exact unhide HV8
end Go.Proofs.YtdaejkngmckmdaaGreatDoor
