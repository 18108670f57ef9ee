/- Lawler: the walk of the law. -/
import Derived.Test.YtmpigipeajdgcaaL35
import Derived.Test.YtmpigipeajdgcaaL16
namespace Go.Proofs.Ytmpigipeajdgcaa
open Go.RowKit Go.Sort Stb

theorem rl_get {n : Nat} {r : Nat → Int} {k : Nat} (hk : k < n) : (rl r n)[k]? = some (r k).toNat := by
  unfold rl
  simp [hk]
theorem rl_len (r : Nat → Int) (n : Nat) : (rl r n).length = n := by unfold rl; simp
theorem goodR_onto {n : Nat} {r : Nat → Int} (h : GoodR n r) {i : Nat} (hi : i < n) : ∃ q, q < n ∧ r q = (i : Int) := by
  have h1 := (rl_perm h).symm.subset (List.mem_range.2 hi)
  unfold rl at h1
  obtain ⟨q, h2, h3⟩ := List.mem_map.1 h1
  have h4 := List.mem_range.1 h2
  have := h.rng q h4
  exact ⟨q, h4, by omega⟩
theorem kept_get (A : Lin.Lw) : ∀ {L : List Nat}, A.kept L → ∀ {p x : Nat}, L[p]? = some x → ∀ i j, i < A.n → j < A.ln i → A.R i j = (x : Int) → ∃ q, p < q ∧ L[q]? = some i
  | y :: ys, h, 0, x, hp, i, j, hi, hj, hx => by
    have e : y = x := by simpa using hp
    subst e
    obtain ⟨q, hq⟩ := List.mem_iff_getElem?.1 (h.1 i j hi hj hx)
    exact ⟨q + 1, by omega, by simpa using hq⟩
  | y :: ys, h, p + 1, x, hp, i, j, hi, hj, hx => by
    obtain ⟨q, h1, h2⟩ := kept_get A (L := ys) h.2 (p := p) (x := x) (by simpa using hp) i j hi hj hx
    exact ⟨q + 1, by omega, by simpa using h2⟩
theorem kpt_of_kept {n : Nat} {f : Nat → T3} {R : Nat → Nat → Int} {ln : Nat → Nat} {r : Nat → Int} (h : GoodR n r) (hx : ∀ i j, i < n → j < ln i → 0 ≤ R i j ∧ R i j < (n : Int)) (hk : (lw n f R ln).kept (rl r n)) : Kpt n R ln r n := fun i j hi hj => by
  have h1 := hx i j hi hj
  obtain ⟨x, hxx⟩ : ∃ x : Nat, R i j = (x : Int) := ⟨(R i j).toNat, by omega⟩
  obtain ⟨p, hp, hrp⟩ := goodR_onto h (i := x) (by omega)
  obtain ⟨q, hq, hg⟩ := kept_get _ hk (p := p) (x := x) (by rw [rl_get hp, hrp]; rfl) i j hi hj hxx
  have hqn : q < n := by
    have := (List.getElem?_eq_some_iff.1 hg).1
    rw [rl_len] at this
    exact this
  rw [rl_get hqn] at hg
  have hg' : (r q).toNat = i := Option.some.inj hg
  have e1 := posU_at h n (Nat.le_refl _) p hp
  have e2 := posU_at h n (Nat.le_refl _) q hqn
  rw [hrp] at e1
  rw [hg'] at e2
  rw [hxx, e1, e2]
  omega
theorem kept_of_kpt {n : Nat} {f : Nat → T3} {R : Nat → Nat → Int} {ln : Nat → Nat} {r : Nat → Int} (h : GoodR n r) (hk : Kpt n R ln r n) : ∀ d, d ≤ n → (lw n f R ln).kept ((rl r n).drop (n - d))
  | 0, _ => by
    rw [List.drop_eq_nil_of_le (by rw [rl_len]; omega)]
    trivial
  | d + 1, hd => by
    have ih := kept_of_kpt (f := f) h hk d (by omega)
    have hl : n - (d + 1) < (rl r n).length := by rw [rl_len]; omega
    rw [List.drop_eq_getElem_cons hl, show n - (d + 1) + 1 = n - d by omega]
    refine ⟨fun i j hi hj hx => ?_, ih⟩
    have hi' : i < n := hi
    have h0 : (rl r n)[n - (d + 1)]? = some (r (n - (d + 1))).toNat := rl_get (by omega)
    have h1 : (rl r n)[n - (d + 1)] = (r (n - (d + 1))).toNat := by
      have := List.getElem?_eq_getElem hl
      rw [h0] at this
      exact (Option.some.inj this).symm
    rw [h1] at hx
    obtain ⟨q, hq, hrq⟩ := goodR_onto h (i := i) hi'
    have e1 := posU_at h n (Nat.le_refl _) (n - (d + 1)) (by omega)
    have e2 := posU_at h n (Nat.le_refl _) q hq
    rw [hrq] at e2
    have h2 := hk i j hi' hj
    have hx' : R i j = (((r (n - (d + 1))).toNat : Nat) : Int) := hx
    rw [hx', Int.toNat_natCast, e1] at h2
    rw [Int.toNat_natCast] at e2
    rw [e2] at h2
    have hlt : n - (d + 1) < q := by omega
    refine List.mem_of_getElem? (i := q - (n - d)) ?_
    rw [List.getElem?_drop, show n - d + (q - (n - d)) = q by omega, rl_get hq, hrq]
    rfl
theorem kept_of_kpt' {n : Nat} {f : Nat → T3} {R : Nat → Nat → Int} {ln : Nat → Nat} {r : Nat → Int} (h : GoodR n r) (hk : Kpt n R ln r n) : (lw n f R ln).kept (rl r n) := by
  have := kept_of_kpt (f := f) h hk n (Nat.le_refl _)
  rw [Nat.sub_self] at this
  exact this
theorem rl_lI' {n : Nat} {L : List Nat} (h : L.length = n) : rl (lI L) n = L := by
  rw [← h]
  exact rl_lI L
theorem rowS_lI {n : Nat} {L : List Nat} (i : Nat) : rowS n n L i = lI L i := by
  unfold rowS lI
  rw [if_pos (by omega), show i - (n - n) = i by omega, List.getD_eq_getElem?_getD, List.getElem!_eq_getElem?_getD]
  rfl
theorem lawcode_zero {n m : Nat} {f : Nat → T3} {R : Nat → Nat → Int} {ln : Nat → Nat} (h : lawcode n m f R ln = 0) : tcode n f = 0 ∧ lcode n m R ln = 0 := by
  unfold lawcode at h
  by_cases c : tcode n f = 0
  · rw [if_neg (by simpa using c)] at h
    by_cases c2 : lcode n m R ln = 0
    · exact ⟨c, c2⟩
    · rw [if_pos c2] at h; exact absurd h c2
  · rw [if_pos c] at h; exact absurd h c
theorem lawler_most {n : Nat} {f : Nat → T3} {R : Nat → Nat → Int} {ln : Nat → Nat} {st : Lin.LS} (h : (lw n f R ln).lst n = some st) : st.suf.Perm (List.range n) ∧ GoodR n (lI st.suf) ∧ (lw n f R ln).kept (rl (lI st.suf) n) ∧ mostV f (lI st.suf) n n = st.gr := by
  obtain ⟨h1, h2, h3, h4⟩ := (lw n f R ln).whole h
  have hp : st.suf.Perm (List.range n) := h1
  have hg := goodR_perm hp
  have hlen : st.suf.length = n := by have := hp.length_eq; simpa using this
  have e := rl_lI' hlen
  refine ⟨hp, hg, by rw [e]; exact h2, ?_⟩
  have key : ∀ M, 0 ≤ M → (st.gr ≤ M ↔ mostV f (lI st.suf) n n ≤ M) := fun M hM => by
    rw [h4 M hM, mostV_le hM, ← allC_ends (f := f) hg (c := wc f), e]
    exact Iff.rfl
  have a1 := (key st.gr h3).1 (Int.le_refl _)
  have a2 := (key _ (mostV_nn (f := f) (r := lI st.suf) (n := n) n)).2 (Int.le_refl _)
  omega
theorem lawler_least {n : Nat} {f : Nat → T3} {R : Nat → Nat → Int} {ln : Nat → Nat} {st : Lin.LS} (h : (lw n f R ln).lst n = some st) (hT : GoodT n f) (hf : ∀ i, 0 ≤ wT f i) {r : Nat → Int} (hg : GoodR n r) (hk : Kpt n R ln r n) : st.gr ≤ mostV f r n n := by
  have O : (lw n f R ln).Ok := ⟨fun i hi => (hT.p i hi).1, hf⟩
  refine (lw n f R ln).least O (mostV_nn n) (rl_perm hg) (kept_of_kpt' hg hk) ?_ h
  have := (allC_ends (f := f) hg (c := wc f) (M := mostV f r n n)).2 ((mostV_le (mostV_nn n) n).1 (Int.le_refl _))
  exact this
/-- How many numbers stand in the first rows. -/
def tot (m : Nat) (ln : Nat → Nat) : Nat → Nat
  | 0 => m
  | i + 1 => tot m ln i + ln i
theorem tot_bd {m : Nat} {ln : Nat → Nat} (hm : m ≤ 1048576) (hl : ∀ i, ln i ≤ 1048576) : ∀ i, tot m ln i ≤ 1048576 + 1048576 * i
  | 0 => by show m ≤ _; omega
  | i + 1 => by
    have := tot_bd hm hl i
    have := hl i
    show tot m ln i + ln i ≤ _
    omega

set_option maxHeartbeats 8000000 in
set_option maxRecDepth 100000 in
set_option linter.unusedSimpArgs false in
theorem lineLawlered_any (a : Option Addr) (n c : Nat) (f : Nat → T3) (va : Option Addr) (m vc : Nat) (H : Nat → Option Addr × Nat × Nat) (R : Nat → Nat → Int) (ma : Option Addr) (mn mc : Nat) (mf : Nat → Int) (w : World) (ha : TRow w a n c f) (hf : ∀ i, n ≤ i → 0 ≤ wT f i) (hr : RRow w va m vc H R) (hmb : m ≤ 1048576) (hl : ∀ i, lnH H i ≤ 1048576) (hm : IRow w ma mn mc mf) :
    Calls Try.prog 6 #[.slice a n c, .slice va m vc, .slice ma mn mc] w fun e w' => e = .returned (.bool true) ∧ Below w.heap.size w w' := by
  have b1 := ha.1
  have b2 := ha.2.1
  have b3 := hm.1
  have b4 := hm.2.1
  have b5 := hr.1
  have b6 := hr.2.1
  have HA := hide ha
  have HM := hide hm
  have HR := hide hr
  have HL := hide hl
  have HF := hide hf
  have HD : Hid (∀ W, Calls Try.prog 8 #[] W fun e w' => e = .returned (.bool true) ∧ Below W.heap.size W w') := done_any
  have HLA := hide (lawler_any a n c f va m vc H R w ha hr hl)
  clear ha hm hr hl hf
  go_enter Try.func6, Try.ntmps6
  go_wp2_with fail
  go_loopw [7, 8] (fun vt vi wv => ∃ i : Nat, vi = .int .i64 (i : Int) ∧ i ≤ m ∧ vt = .int .i64 ((tot m (lnH H) i : Nat) : Int) ∧ wv = w) (fun _ vi _ => m - (intOf vi).toNat)
  case atStart => exact ⟨0, rfl, Nat.zero_le _, rfl, rfl⟩
  case round =>
    obtain ⟨i, rfl, hi, rfl, rfl⟩ := hrel
    have htb := tot_bd hmb (unhide HL) i
    by_cases him : i < m
    · obtain ⟨_, _, h3, h4⟩ := unhide HR
      obtain ⟨b, o, rfl, hbl, hc⟩ := h4 (by omega)
      have c0 := hc i him
      have hrow := h3 i him
      have hli := unhide HL i
      have hs : tot m (lnH H) (i + 1) = tot m (lnH H) i + lnH H i := rfl
      obtain ⟨⟨ha0, hl0, hcp⟩, hH⟩ : ∃ t, H i = t := ⟨_, rfl⟩
      have hlH : lnH H i = hl0 := by unfold lnH; rw [hH]
      rw [hH] at c0 hrow
      simp only at c0 hrow
      rw [hlH] at hli hs
      obtain ⟨t, ht⟩ : ∃ t, tot m (lnH H) i = t := ⟨_, rfl⟩
      rw [ht] at hs htb ⊢
      have HS := hide hs
      have q7 := hrow.1
      have q8 := hrow.2.1
      have e1 : (0 : Int) ≤ (i : Int) := by omega
      have e2 : (i : Int) < (m : Int) := by omega
      have e3 : IntKind.i64.wrap ((t : Int) + (hl0 : Int)) = (t : Int) + (hl0 : Int) := by rw [IntKind.wrap_i64]; omega
      have e6 : IntKind.i64.wrap ((i : Int) + 1) = (i : Int) + 1 := by rw [IntKind.wrap_i64]; omega
      clear h3 h4 hc hrow hH hlH hs ht htb HLA
      go_wp2
      exact ⟨⟨i + 1, by go_num, him, by rw [unhide HS]; simp, by trivial⟩, by simp [intOf]; omega⟩
    · obtain rfl : i = m := by omega
      have e0 : ¬ (i : Int) < (i : Int) := by omega
      obtain ⟨t, ht⟩ : ∃ t, tot i (lnH H) i = t := ⟨_, rfl⟩
      rw [ht]
      clear htb ht
      by_cases h1 : 12 < n
      · have e1 : (12 : Int) < (n : Int) := by omega
        clear HLA
        go_wp2
        (try simp only [Exit.inBlock, Exit.then])
        (try go_wp2)
        go_ret
        exact ⟨rfl, Below.refl _ _⟩
      have e1 : ¬ (12 : Int) < (n : Int) := by omega
      by_cases h2 : 60 < t
      · have e2 : (60 : Int) < (t : Int) := by omega
        clear HLA
        go_wp2
        (try simp only [Exit.inBlock, Exit.then])
        (try go_wp2)
        go_ret
        exact ⟨rfl, Below.refl _ _⟩
      have e2 : ¬ (60 : Int) < (t : Int) := by omega
      by_cases h3 : 60 < mn
      · have e3 : (60 : Int) < (mn : Int) := by omega
        clear HLA
        go_wp2
        (try simp only [Exit.inBlock, Exit.then])
        (try go_wp2)
        go_ret
        exact ⟨rfl, Below.refl _ _⟩
      have e3 : ¬ (60 : Int) < (mn : Int) := by omega
      go_wp2_with fail
      (try simp only [Exit.inBlock, Exit.then])
      (try go_wp2_with fail)
      refine (unhide HLA).mono ?_
      rintro e w1 ⟨hb1, hp⟩
      rcases hp with ⟨ht, rfl⟩ | ⟨ht, st, hst, G, hG, rfl, hO⟩
      · have HB := hide hb1
        clear hb1 HLA
        generalize lawcode n i f R (lnH H) = k at ht ⊢
        clear ht
        go_wp2_with fail
        refine (unhide HD w1).mono ?_
        rintro e w2 ⟨rfl, hb2⟩
        have HB2 := hide (below_step (unhide HB) hb2)
        clear hb2
        go_wp2_with fail
        refine (unhide HD w2).mono ?_
        rintro e w3 ⟨rfl, hb3⟩
        have HB3 := hide (below_step (unhide HB2) hb3)
        clear hb3
        go_wp2
        go_ret
        exact ⟨rfl, unhide HB3⟩
      · have hz := lawcode_zero ht
        have hmn := (lcode_zero hz.2).1
        have HX := hide (lcode_zero hz.2).2
        have HT := hide hz.1
        have HLM := hide (lawler_most hst)
        have HST := hide hst
        obtain ⟨gr, hgr⟩ : ∃ g, st.gr = g := ⟨_, rfl⟩
        rw [hgr]
        have HGR := hide hgr
        have HB := hide hb1
        have HO := hide (hO.congr (fun j _ => rowS_lI j))
        clear hz ht hst hgr hb1 hO hG HLA
        subst hmn
        go_wp2_with fail
        refine (unhide HD w1).mono ?_
        rintro e w2 ⟨rfl, hb2⟩
        have HB2 := hide (below_step (unhide HB) hb2)
        have HC1 := hide (worst_any a i c f va vc H R (some ⟨G, 0, none⟩) i (lI st.suf) w2 ((unhide HA).below (unhide HB2)) ((unhide HR).below (unhide HB2)) (unhide HX) (((unhide HO).keep hb2).irow (by omega)) (unhide HT) (unhide HLM).2.1)
        clear hb2
        go_wp2_with fail
        refine (unhide HC1).mono ?_
        rintro e w3 ⟨hb3, hp⟩
        rcases hp with ⟨h, _⟩ | ⟨_, rfl⟩
        · exact absurd (kpt_of_kept (unhide HLM).2.1 (unhide HX) (unhide HLM).2.2.1) h
        rw [(unhide HLM).2.2.2, unhide HGR]
        have HB3 := hide (below_step (unhide HB2) hb3)
        have HS := hide (shuffled_any i ma mn mc mf w3 (by omega) ((unhide HM).below (unhide HB3)) (by omega))
        have e9 : (gr == gr) = true := by simp
        clear hb3 HC1
        go_wp2_with fail
        refine (unhide HS).mono ?_
        rintro e w4 ⟨G4, s, hG4, rfl, hO4, hres, hb4⟩
        have HB4 := hide (below_step (unhide HB3) hb4)
        have HC2 := hide (worst_any a i c f va vc H R (some ⟨G4, 0, none⟩) i (nI s) w4 ((unhide HA).below (unhide HB4)) ((unhide HR).below (unhide HB4)) (unhide HX) (hO4.irow (by omega)) (unhide HT) (goodR_re hres))
        have HRES := hide (goodR_re hres)
        clear hb4 hO4 hres hG4 HS e9
        go_wp2_with fail
        refine (unhide HC2).mono ?_
        rintro e w5 ⟨hb5, hp⟩
        have HB5 := hide (below_step (unhide HB4) hb5)
        clear hb5 HC2
        rcases hp with ⟨_, rfl⟩ | ⟨hk2, rfl⟩
        · go_wp2
          go_ret
          exact ⟨rfl, unhide HB5⟩
        · obtain ⟨v2, hv2⟩ : ∃ v, mostV f (nI s) i i = v := ⟨_, rfl⟩
          rw [hv2]
          have hle : gr ≤ v2 := by
            rw [← unhide HGR, ← hv2]
            refine lawler_least (unhide HST) (goodT_of (unhide HT)) (fun q => ?_) (unhide HRES) hk2
            rcases Nat.lt_or_ge q i with c1 | c1
            · exact ((goodT_of (unhide HT)).w q c1).1
            · exact unhide HF q c1
          clear hk2 hv2
          go_wp2
          go_ret
          exact ⟨rfl, unhide HB5⟩
end Go.Proofs.Ytmpigipeajdgcaa
