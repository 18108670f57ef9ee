/- Hidden states: Smooth. -/
import Derived.Test.YtfnbjenneodcdaaGreatDoorLD
namespace Go.Proofs.YtfnbjenneodcdaaGreatDoor
open Go.RowKit Go.Sort Go.Shelf

theorem egMean (args : Array Value) (w : World) : (callFunc 51 args).run Tryz.prog w = .ok (.enter 51 args) w := by
  go_simp
def bsz : Nat → Nat
  | 0 => 1
  | d + 1 => 8 * (bsz d + 3) + 1
theorem bsz_le {t : Nat} (h : t ≤ 6) : bsz t ≤ 1300000 := by
  match t, h with
  | 0, _ | 1, _ | 2, _ | 3, _ | 4, _ | 5, _ | 6, _ => decide
theorem bwmn_RS {fs : List Rat} {P G : List (List Rat)} {s : Nat → Nat} {T : Nat} (gm : GoodH fs P G) (sm : SmHm fs P G) (hs : ∀ i, i < T → s i < (G[0]!).length) : ∀ (d i : Nat), d < T → i < fs.length → RS (Blf.bw (hm fs P G) s T (Blf.mn fs.length) d i) (bsz d)
  | 0, i, _, _ => one_RS'
  | d + 1, i, hd, hi => by
    have a := ps8_RS (f := fun k => (hm fs P G).p i k * Blf.wsg (hm fs P G) (Blf.bw (hm fs P G) s T (Blf.mn fs.length) d) (s (T - 1 - d)) k) (J := bsz d + 2) gm.n8 (fun k hk => by
      have r1 : RS ((hm fs P G).p i k) 1 := sm.rp i k (by rw [gm.pl]; exact hi) (by rw [gm.px i hi]; exact hk)
      have r2 := bwmn_RS gm sm hs d k (by omega) hk
      have r3 : RS ((hm fs P G).g k (s (T - 1 - d))) 1 := sm.rg k _ (by rw [gm.gl]; exact hk) (by rw [gm.gx k hk]; exact hs _ (by omega))
      exact (r1.mul (r2.mul r3)).mono (by omega))
    exact a
/-- Chances by all signs. -/
def smo_ (A B : Nat → Nat → Rat) (q : Rat) (T : Nat) (t i : Nat) : Rat := A t i / q * B (T - 1 - t) i

set_option maxHeartbeats 16000000 in
set_option maxRecDepth 100000 in
set_option linter.unusedSimpArgs false in
theorem smooth_any (v : Value) (sn : Sl) (fs : List Rat) (P G : List (List Rat)) (T : Nat) (f : Nat → Int) (w : World) (h : HmIs w v fs P G) (sm : SmHm fs P G) (hs : NRow w (.slice sn.a T sn.c) T f) (hT7 : T ≤ 7) :
    Calls Tryz.prog 16 #[v, .slice sn.a T sn.c] w (FilPost (smo_ (Blf.al (hm fs P G) (sOf f)) (Blf.bw (hm fs P G) (sOf f) T (Blf.mn fs.length)) (Blf.seen (hm fs P G) (sOf f) T) T) w fs P G T f) := by
  have KKe : KK = 1099511627776 := rfl
  have HSM := hide sm
  have hsn : T ≤ sn.c ∧ sn.c ≤ 9223372036854775807 := by
    obtain ⟨a, c, e, h1, h2, _⟩ := hs
    have e1 : sn.c = c := by injection e
    rw [e1]; exact ⟨h1, h2⟩
  obtain ⟨hsn1, hsn2⟩ := hsn
  obtain ⟨sf, sp, sg, rfl, hF, hP, hG⟩ := h
  have hfn := law_len hF
  have hpn := rows_len hP
  have hgn := rows_len hG
  obtain ⟨n, hn⟩ : ∃ n, fs.length = n := ⟨_, rfl⟩
  have HN := hide hn
  obtain ⟨np, hnp⟩ : ∃ n, P.length = n := ⟨_, rfl⟩
  have HNP := hide hnp
  obtain ⟨ng, hng⟩ : ∃ n, G.length = n := ⟨_, rfl⟩
  have HNG := hide hng
  rw [hn] at hfn
  rw [hnp] at hpn
  rw [hng] at hgn
  clear hnp hng
  have X0 := HBox.new hF hP hG
  have b0 := alloc_below w (.cells #[.slice sf.a sf.n sf.c, .slice sp.a sp.n sp.c, .slice sg.a sg.n sg.c] 53)
  obtain ⟨W0, hW0⟩ : ∃ W, w.alloc (.cells #[.slice sf.a sf.n sf.c, .slice sp.a sp.n sp.c, .slice sg.a sg.n sg.c] 53) = W := ⟨_, rfl⟩
  obtain ⟨bx, hbx⟩ : ∃ b, w.heap.size = b := ⟨_, rfl⟩
  rw [hW0] at X0 b0
  rw [hbx] at X0
  have HX0 := hide X0
  have HB0 := hide b0
  have HCH : Hid (∀ W, Below W0.heap.size W0 W → (fun w' : World => w'.cell? ⟨bx, 0, none⟩ = some (.slice sf.a n sf.c) ∧ w'.cell? ⟨bx, 1, none⟩ = some (.slice sp.a np sp.c) ∧ w'.cell? ⟨bx, 2, none⟩ = some (.slice sg.a ng sg.c)) W) := fun W hW => by
    have h1 := (unhide HX0).cells W hW
    rw [hfn, hpn, hgn] at h1
    exact h1
  have HIS : Hid (∀ W, Below W0.heap.size W0 W → HmIs W (.agg #[.slice sf.a n sf.c, .slice sp.a np sp.c, .slice sg.a ng sg.c]) fs P G) := fun W hW => by
    have h1 := (unhide HX0).hm.below hW
    unfold hmval at h1
    rw [hfn, hpn, hgn] at h1
    exact h1
  have ⟨c0, c1, c2⟩ := unhide HCH _ (Below.refl _ _)
  have HFN := hide hfn
  have HPN := hide hpn
  have HGN := hide hgn
  unfold hmval
  rw [hfn, hpn, hgn] at hW0 ⊢
  clear hF hP hG X0 b0 hn hfn hpn hgn
  have HS := hide (hs.below (unhide HB0))
  have HCS := hide (checkSigns_any _ sn fs P G T f W0 (unhide HIS _ (Below.refl _ _)) (unhide HSM) (unhide HS) (by omega))
  clear hs sm
  go_enter Tryz.func16, Tryz.ntmps16
  go_wp2_with fail
  clear hW0 hbx c0 c1 c2
  refine (unhide HCS).mono ?_
  rintro e w1 ⟨rfl, hb1⟩
  have HB1 := hide hb1
  obtain ⟨z, hz⟩ : ∃ z, scode fs P G T f = z := ⟨_, rfl⟩
  rw [hz]
  have HZ := hide hz
  clear hz hb1 HCS
  by_cases hz0 : z = 0
  rotate_left
  · have e5 : errV z = .iface 59 (.int .i64 z) := by unfold errV; rw [if_neg hz0]
    rw [e5]
    have HNZ := hide hz0
    clear hz0 e5
    go_wp2
    go_ret2
    exact Or.inr (Or.inr ⟨fun h => unhide HNZ ((unhide HZ).symm.trans h), z, rfl, below_step (unhide HB0) (unhide HB1)⟩)
  subst hz0
  have e5 : errV 0 = .nilIface := rfl
  rw [e5]
  clear e5
  obtain ⟨hc0, hT12, hsg⟩ := scode_good (unhide HZ)
  have gm := goodH_of hc0
  obtain rfl : n = np := by rw [← unhide HNP, gm.pl]; exact (unhide HN).symm
  obtain rfl : n = ng := by rw [← unhide HNG, gm.gl]; exact (unhide HN).symm
  have hn1 := gm.n1
  have hn8 := gm.n8
  rw [unhide HN] at hn1 hn8
  have HGM := hide gm
  have HSG : Hid (∀ i, i < T → sOf f i < (G[0]!).length) := fun i hi => by
    have := hsg i hi
    unfold sOf; omega
  have HAR : Hid (∀ t i, t < T → i < n → RS (Blf.al (hm fs P G) (sOf f) t i) 1200000) := fun t i ht hi => al_small (unhide HGM) (unhide HSM) (unhide HSG) hT7 t i ht (by rw [unhide HN]; exact hi)
  have HFF : Hid (Calls Tryz.prog 46 #[.agg #[.slice sf.a n sf.c, .slice sp.a n sp.c, .slice sg.a n sg.c], .slice sn.a T sn.c] w1 (FirPost w1 T n (Blf.al (hm fs P G) (sOf f)))) := by
    have := fromFirst_any (.agg #[.slice sf.a n sf.c, .slice sp.a n sp.c, .slice sg.a n sg.c]) sn fs P G (sOf f) T 1200000 11000000 w1 (unhide HIS _ (unhide HB1)) (unhide HGM) (unhide HSM) (((unhide HS).below (unhide HB1)).congr (fun i hi => by
      have := hsg i hi
      unfold sOf; omega)) (by omega) (unhide HSG) (fun t i ht hi => unhide HAR t i ht (by rw [← unhide HN]; exact hi)) (by omega) (by omega) (by rw [KKe]; omega)
    rw [unhide HN] at this
    exact this
  have HSS : Hid (NRow w1 (.slice sn.a T sn.c) T (fun i => ((sOf f i : Nat) : Int))) := ((unhide HS).below (unhide HB1)).congr (fun i hi => by
    have := hsg i hi
    unfold sOf; omega)
  have ⟨d0, d1, d2⟩ := unhide HCH _ (unhide HB1)
  clear gm hc0 hsg
  obtain ⟨A, hA_⟩ : ∃ A, Blf.al (hm fs P G) (sOf f) = A := ⟨_, rfl⟩
  rw [hA_] at HFF HAR
  have HA := hide hA_
  obtain ⟨q, hq⟩ : ∃ q, Blf.seen (hm fs P G) (sOf f) T = q := ⟨_, rfl⟩
  have HQ := hide hq
  have HQA : Hid (seenA n A T = q) := by
    show _ = q
    have e := seenA_is (hm fs P G) (sOf f) T
    have en : (hm fs P G).n = n := unhide HN
    rw [en, hA_] at e
    rw [e]; exact hq
  clear hA_ hq
  go_wp2_with fail
  clear d0 d1 d2
  refine (unhide HFF).mono ?_
  rintro e w2 ⟨v2, ts, rfl, hrs, hts, hhi⟩
  obtain ⟨a2, cap2, rfl, hcp1, hcp2⟩ := hrs.form
  rw [hts] at hrs hcp1 ⊢
  have HRS := hide hrs
  have HTS := hide hts
  have HB2 := hide (below_step (unhide HB1) hrs.bl)
  have HSE := hide (seen_any _ T n 1200000 A w2 (hrs.rows (by rw [mrows_length]; exact hts)) (by omega) (by omega) (unhide HAR) (by rw [KKe]; omega))
  rw [unhide HQA] at HSE
  clear hrs hts HFF hhi
  go_wp2_with fail
  refine (unhide HSE).mono ?_
  rintro e w3 ⟨v3, rfl, hv3, hb3⟩
  have HGA : Hid (∀ ad, a2 = some ad → ad.block < w2.heap.size) := fun ad e => (ownsS_block (unhide HRS).own _ (by rw [e]; rfl)).2
  obtain ⟨tq, rfl, rq⟩ := tri_of hv3
  simp only [Tri.val]
  have b8_ := alloc_below w3 (.cells #[.bool tq.s, .slice tq.a1 tq.n1 tq.c1, .slice tq.a2 tq.n2 tq.c2] 26)
  have X8 := BoxIs.new rq
  obtain ⟨W3, hW3⟩ : ∃ W, w3.alloc (.cells #[.bool tq.s, .slice tq.a1 tq.n1 tq.c1, .slice tq.a2 tq.n2 tq.c2] 26) = W := ⟨_, rfl⟩
  obtain ⟨b8, hb8⟩ : ∃ g, w3.heap.size = g := ⟨_, rfl⟩
  rw [hW3] at b8_ X8
  rw [hb8] at X8
  have HB3 := hide (below_step (unhide HB2) (below_step hb3 b8_))
  have HR3 := hide ((unhide HRS).keep (below_step hb3 b8_))
  have HX8 := hide X8
  have HG8 : Hid (w2.heap.size ≤ b8) := by show _ ≤ b8; rw [← hb8]; exact hb3.size
  have HSI := hide (sign_any tq.val q W3 X8.2)
  have ⟨x0, x1, x2⟩ := X8.cells _ (Below.refl _ _)
  clear HRS hv3 hb3 HSE rq b8_ X8
  by_cases hq0 : q = 0
  · have e1 : (q.num.sign == 0) = true := by rw [hq0]; rfl
    have HQ0 := hide hq0
    obtain ⟨sg_, hsg_⟩ : ∃ x, q.num.sign = x := ⟨_, rfl⟩
    rw [hsg_] at HSI e1
    clear hq0 hsg_
    go_wp2_with fail
    clear hW3 hb8 x0 x1 x2
    refine (unhide HSI).mono ?_
    rintro e wz ⟨rfl, hbz⟩
    have HBZ := hide (below_step (below_step (unhide HB0) (unhide HB3)) hbz)
    clear hbz
    go_wp2
    go_ret2
    exact Or.inr (Or.inl ⟨unhide HZ, by rw [unhide HQ]; exact unhide HQ0, rfl, unhide HBZ⟩)
  have e1 : (q.num.sign == 0) = false := by
    rw [beq_eq_false_iff_ne]
    intro e
    exact hq0 (Rat.num_eq_zero.1 (Int.sign_eq_zero_iff_zero.1 e))
  have HQ0 := hide hq0
  have HQR : Hid (RS q 11000000) := by
    show RS q 11000000
    rw [← unhide HQ]
    exact seen_RS (unhide HGM) (unhide HSM) (unhide HSG) hT7
  have HKK : Hid (30000000 + 30000000 + 1 ≤ KK) := by show _ ≤ _; rw [KKe]; omega
  obtain ⟨B, hB_⟩ : ∃ B, Blf.bw (hm fs P G) (sOf f) T (Blf.mn fs.length) = B := ⟨_, rfl⟩
  have HBB := hide hB_
  have HBR : Hid (∀ d i, d < T → i < n → RS (B d i) 1300000) := fun d i hd hi => by
    rw [← hB_]
    exact (bwmn_RS (unhide HGM) (unhide HSM) (unhide HSG) d i hd (by rw [unhide HN]; exact hi)).mono (bsz_le (by omega))
  obtain ⟨sg_, hsg_⟩ : ∃ x, q.num.sign = x := ⟨_, rfl⟩
  rw [hsg_] at HSI e1
  clear hq0 hsg_ hB_
  go_wp2_with fail
  clear hW3 hb8 x0 x1 x2
  refine (unhide HSI).mono ?_
  rintro e w4 ⟨rfl, hb4⟩
  have HB4 := hide (below_step (unhide HB3) hb4)
  have HR4 := hide ((unhide HR3).keep hb4)
  have HX84 := hide ((unhide HX8).keep hb4)
  have HFE : Hid (Calls Tryz.prog 50 #[.agg #[.slice sf.a n sf.c, .slice sp.a n sp.c, .slice sg.a n sg.c], .slice sn.a T sn.c, .func (.func 51) #[] #[]] w4 (EndPost w4 T n B)) := by
    have := fromEnd_any (.agg #[.slice sf.a n sf.c, .slice sp.a n sp.c, .slice sg.a n sg.c]) sn fs P G (sOf f) T 51 1300001 (Blf.mn fs.length) w4 (unhide HIS _ (unhide HB4)) (unhide HGM) (unhide HSM) ((unhide HSS).below (below_step (below_step (unhide HR3).bl (Below.refl _ _)) hb4)) (by omega) (unhide HSG) egMean (fun l1 l2 qs xs W h1 h2 e1 e2 r1 r2 => bmean_any l1 l2 qs xs fs.length 1300001 30000000 W h1 h2 e1 e2 (unhide HGM).n1 (by have := (unhide HGM).n8; omega) r1 r2 (by have := (unhide HGM).n8; omega) (unhide HKK)) (fun a b c d h1 h2 => Bth.ps_congr _ (fun j hj => by rw [h1 j hj, h2 j hj])) (by rw [KKe]; omega) (by omega) (fun d i hd hi => by
      rw [unhide HBB]
      exact unhide HBR d i hd (by rw [← unhide HN]; exact hi))
    rw [unhide HBB, unhide HN] at this
    exact this
  have ⟨d0, d1, d2⟩ := unhide HCH _ (unhide HB4)
  clear hb4 HR3 HX8 HSI
  go_wp2_with fail
  clear e1 d0 d1 d2
  refine (unhide HFE).mono ?_
  rintro e w5 ⟨ge, rfl, hrf, hb5⟩
  have HR5 : Hid (RsAt w1 w5 (.slice a2 T cap2) ts (mrows T n (mix 0 (smo_ A B q T) A))) := by
    show RsAt w1 w5 (.slice a2 T cap2) ts _
    rw [mix_zero]; exact (unhide HR4).keep hb5
  have HX85 := hide ((unhide HX84).keep hb5)
  have HGB : Hid (∀ ad, a2 = some ad → ad.block < w4.heap.size ∧ ad.block ≠ b8) := fun ad e => by
    have h1 := unhide HGA ad e
    have h2 := unhide HG8
    have h3 := (unhide HX84).lt
    exact ⟨by omega, by omega⟩
  have HRF5 := hide hrf
  have HB5 := hide (below_step (unhide HB4) hb5)
  clear hrf hb5 HR4 HX84 HFE
  go_wp2_with fail
  go_loopw [32] (fun vt wr => ∃ (t : Nat) (ts : List Sl), vt = .int .i64 (t : Int) ∧ t ≤ T ∧ ts.length = T ∧ RsAt w1 wr (.slice a2 T cap2) ts (mrows T n (mix t (smo_ A B q T) A)) ∧ BoxIs wr b8 tq q ∧ RowsFr w4.heap.size wr (.slice (some ⟨ge, 0, none⟩) T T) (mrows T n (fun i => B (T - 1 - i)))) (fun vt _ => T - (intOf vt).toNat)
  case atStart => exact ⟨0, ts, rfl, Nat.zero_le _, unhide HTS, unhide HR5, unhide HX85, unhide HRF5⟩
  case round =>
    obtain ⟨t, ts, rfl, ht, hts, S, X, hrf⟩ := hrel
    clear HR5 HX85 HRF5
    by_cases hlt : t < T
    · have f1 : (t : Int) < (T : Int) := by omega
      have f0 : (0 : Int) ≤ (t : Int) := by omega
      obtain ⟨g, cap, hvo, hgl, hgw, _, _, hgc, hlu⟩ := S.at (j := t) (by omega)
      injection hvo with ev1 ev2 ev3
      clear ev2 ev3
      subst ev1
      rw [mrows_get hlt] at hlu
      have hmx : mix t (smo_ A B q T) A t = A t := by unfold mix; rw [if_neg (Nat.lt_irrefl _)]
      rw [hmx] at hlu
      obtain ⟨lp, hlp⟩ : ∃ l, ts[t]! = l := ⟨_, rfl⟩
      rw [hlp] at hgc hlu
      have hln := law_len hlu
      rw [row_length] at hln
      rw [hln] at hgc
      have hrs2 : RowsAre wr (Sl.val (some ⟨ge, 0, none⟩, T, T)) (mrows T n (fun i => B (T - 1 - i))) := hrf.rows
      have hml : t < (mrows T n (fun i => B (T - 1 - i))).length := by rw [mrows_length]; exact hlt
      obtain ⟨bq, oq, mq, hqa, hbq, k0, hA⟩ := hrs2.at hml
      rw [mrows_get hlt] at hA
      obtain ⟨rfl, rfl⟩ : bq = ge ∧ oq = 0 := by
        have e : some (⟨ge, 0, none⟩ : Addr) = some ⟨bq, oq, none⟩ := hqa
        injection e with e
        injection e with e1 e2
        exact ⟨e1.symm, e2.symm⟩
      rw [Nat.zero_add] at k0
      have hmq := law_len hA
      rw [row_length] at hmq
      rw [hmq] at k0
      obtain ⟨br, oR, hra, hbr, HCR⟩ : ∃ b o, mq.a = some ⟨b, o, none⟩ ∧ b < wr.heap.size ∧ Hid (∀ j, j < n → ∃ t' : Tri, wr.cell? ⟨b, o + j * 3, none⟩ = some (.bool t'.s) ∧ wr.cell? ⟨b, o + j * 3 + 1, none⟩ = some (.slice t'.a1 t'.n1 t'.c1) ∧ wr.cell? ⟨b, o + j * 3 + 2, none⟩ = some (.slice t'.a2 t'.n2 t'.c2) ∧ RatIs wr t'.val (row (B (T - 1 - t)) n)[j]!) := hA.open (row_length _ _) hn1
      have HBRL := hide hbr
      rw [hra] at k0
      have hmc := hA.cap (row_length _ _)
      obtain ⟨hmc1, hmc2⟩ := hmc
      have HC11 : Hid (∀ W, Below wr.heap.size wr W → (fun w' : World => w'.cell? ⟨g, t, none⟩ = some (.slice lp.a n lp.c) ∧ (w'.cell? ⟨b8, 0, none⟩ = some (.bool tq.s) ∧ w'.cell? ⟨b8, 1, none⟩ = some (.slice tq.a1 tq.n1 tq.c1) ∧ w'.cell? ⟨b8, 2, none⟩ = some (.slice tq.a2 tq.n2 tq.c2))) W) := fun W hW => ⟨by rw [hW.cell (p := ⟨g, t, none⟩) hgl]; exact hgc, X.cells W hW⟩
      have HDV : Hid (∀ W, Below wr.heap.size wr W → Calls Tryz.prog 48 #[.slice lp.a n lp.c, .agg #[.bool tq.s, .slice tq.a1 tq.n1 tq.c1, .slice tq.a2 tq.n2 tq.c2]] W (DivPost W (row (fun i => A t i / q) n) n)) := fun W hW => by
        have := divided2_any lp tq.val (row (A t) n) q n 11000000 W (hlu.below hW) (row_length _ _) (X.2.below hW) hn1 (by omega) (fun i hi => by
          rw [row_get hi]; exact (unhide HAR t i hlt hi).mono (by omega)) (unhide HQR) (unhide HQ0) (by rw [KKe]; omega)
        rw [show row (fun i => A t i / q) n = row (fun i => (row (A t) n)[i]! / q) n from row_congr (fun i hi => by
          show A t i / _ = (row (A t) n)[i]! / _
          rw [row_get hi])]
        exact this
      have HSX := hide S
      have HTS5 := hide hts
      have HGL := hide hgl
      have HXX := hide X
      have HRFX := hide hrf
      clear S hts hlu hln hlp hmx hgw hgl hgc hrs2 hml hqa hbq hA hmq hra hbr X hrf
      go_wp2_with fail
      clear k0
      refine wp_region_hold (fun w' : World => w'.cell? ⟨g, t, none⟩ = some (.slice lp.a n lp.c) ∧ (w'.cell? ⟨b8, 0, none⟩ = some (.bool tq.s) ∧ w'.cell? ⟨b8, 1, none⟩ = some (.slice tq.a1 tq.n1 tq.c1) ∧ w'.cell? ⟨b8, 2, none⟩ = some (.slice tq.a2 tq.n2 tq.c2))) (by kernel_rfl) ?_
      have bd0 : Below wr.heap.size wr wr.drew := (Below.refl _ _).drew
      have hC0 : (fun w' : World => w'.cell? ⟨g, t, none⟩ = some (.slice lp.a n lp.c) ∧ (w'.cell? ⟨b8, 0, none⟩ = some (.bool tq.s) ∧ w'.cell? ⟨b8, 1, none⟩ = some (.slice tq.a1 tq.n1 tq.c1) ∧ w'.cell? ⟨b8, 2, none⟩ = some (.slice tq.a2 tq.n2 tq.c2))) wr.drew := unhide HC11 _ bd0
      refine wpHold_take (i := 0) (v := ?_) rfl (by kernel_rfl) (by kernel_rfl) (by kernel_rfl) (fun _ _ _ h => h) (Or.inl ⟨by rfl, ?_⟩) hC0 ?_
      rotate_left
      · intro w hSw; clear hSw; go_simp; (try with_reducible rfl)
      (try simp only [List.getElem_toArray, List.getElem_cons_succ, List.getElem_cons_zero])
      (try simp only [Act.put, List.setIfInBounds_toArray, List.set_cons_zero, List.set_cons_succ])
      refine wpHold_take (i := 1) (v := ?_) rfl (by kernel_rfl) (by kernel_rfl) (by kernel_rfl) (fun _ _ _ h => h) (Or.inl ⟨by rfl, ?_⟩) hC0 ?_
      rotate_left
      · intro w hSw; clear hSw; go_simp; (try with_reducible rfl)
      (try simp only [List.getElem_toArray, List.getElem_cons_succ, List.getElem_cons_zero])
      (try simp only [Act.put, List.setIfInBounds_toArray, List.set_cons_zero, List.set_cons_succ])
      refine wpHold_take (i := 2) (v := ?_) rfl (by kernel_rfl) (by kernel_rfl) (by kernel_rfl) (fun _ _ _ h => h) (Or.inl ⟨by rfl, ?_⟩) hC0 ?_
      rotate_left
      · intro w hSw; clear hSw; go_simp; (try with_reducible rfl)
      (try simp only [List.getElem_toArray, List.getElem_cons_succ, List.getElem_cons_zero])
      (try simp only [Act.put, List.setIfInBounds_toArray, List.set_cons_zero, List.set_cons_succ])
      refine wpHold_take (i := 3) (v := ?_) rfl (by kernel_rfl) (by kernel_rfl) (by kernel_rfl) (fun _ _ _ h => h) (Or.inl ⟨by rfl, ?_⟩) hC0 ?_
      rotate_left
      · intro w hSw; (try dsimp only at hSw); obtain ⟨u0, u1, u2, u3⟩ := hSw; go_simp; (try with_reducible rfl)
      (try simp only [List.getElem_toArray, List.getElem_cons_succ, List.getElem_cons_zero])
      (try simp only [Act.put, List.setIfInBounds_toArray, List.set_cons_zero, List.set_cons_succ])
      refine wpHold_take (i := 4) (v := ?_) rfl (by kernel_rfl) (by kernel_rfl) (by kernel_rfl) (fun _ _ _ h => h) (Or.inl ⟨by rfl, ?_⟩) hC0 ?_
      rotate_left
      · intro w hSw; (try dsimp only at hSw); obtain ⟨u0, u1, u2, u3⟩ := hSw; go_simp; (try with_reducible rfl)
      (try simp only [List.getElem_toArray, List.getElem_cons_succ, List.getElem_cons_zero])
      (try simp only [Act.put, List.setIfInBounds_toArray, List.set_cons_zero, List.set_cons_succ])
      refine wpHold_one (k := 5) (by kernel_rfl) rfl (fun K hK => ?_)
      (try simp only [List.getElem_toArray, List.getElem_cons_succ, List.getElem_cons_zero])
      go_simp
      refine (unhide HDV _ bd0).mono ?_
      rintro e xw_1 ⟨gd, us0, rfl, hus0, hged, hS0⟩
      have hb_1 := hS0.bl
      have cc_1 := below_step bd0 hb_1
      have hC_1 : (fun w' : World => w'.cell? ⟨g, t, none⟩ = some (.slice lp.a n lp.c) ∧ (w'.cell? ⟨b8, 0, none⟩ = some (.bool tq.s) ∧ w'.cell? ⟨b8, 1, none⟩ = some (.slice tq.a1 tq.n1 tq.c1) ∧ w'.cell? ⟨b8, 2, none⟩ = some (.slice tq.a2 tq.n2 tq.c2))) xw_1 := unhide HC11 _ cc_1
      refine hK.out _ _ hC_1 ?_
      clear hK K
      (try simp only [Act.put, List.setIfInBounds_toArray, List.set_cons_zero, List.set_cons_succ])
      refine wpHold_one (k := 6) (by kernel_rfl) rfl (fun K hK => ?_)
      (try simp only [List.getElem_toArray, List.getElem_cons_succ, List.getElem_cons_zero])
      go_simp
      refine hK.out _ _ hC_1 ?_
      clear hK K
      (try simp only [Act.put, List.setIfInBounds_toArray, List.set_cons_zero, List.set_cons_succ])
      refine wpHold_done (by kernel_rfl) ?_ _
      have HS0 : Hid (SumsAt wr xw_1 gd us0 (row (fun i => A t i / q) n)) := hS0.rebase bd0
      have HUS := hide hus0
      have HGD : Hid (wr.heap.size ≤ gd) := Nat.le_trans bd0.size hged
      clear hC0 hC_1 cc_1 hb_1 bd0 HC11 HDV hus0 hged hS0
      obtain ⟨U, hU⟩ : ∃ U, wr = U := ⟨_, rfl⟩
      rw [hU] at HS0 HGD HCR HBRL HSX HGL HXX HRFX
      clear hU
      have hmx0 : row (fun i => A t i / q) n = row (fun i => if i < 0 then smo_ A B q T t i else A t i / q) n := row_congr (fun i _ => by rw [if_neg (Nat.not_lt_zero _)])
      rw [hmx0] at HS0
      clear hmx0
      go_wp2_with fail
      go_loopw [45] (fun vj wv => ∃ (j : Nat) (us : List Tri), vj = .int .i64 (j : Int) ∧ j ≤ n ∧ us.length = n ∧ SumsAt U wv gd us (row (fun i => if i < j then smo_ A B q T t i else A t i / q) n)) (fun vj _ => n - (intOf vj).toNat)
      case atStart => exact ⟨0, us0, rfl, Nat.zero_le _, unhide HUS, unhide HS0⟩
      case round =>
        obtain ⟨j, us, rfl, hj, hus, T4⟩ := hrel
        clear HS0 HUS
        by_cases hltj : j < n
        · have j1 : (j : Int) < (n : Int) := by omega
          have j0 : (0 : Int) ≤ (j : Int) := by omega
          have hb := T4.bl
          have ⟨q0, _⟩ := T4.cells j (by omega)
          have qr := T4.rat j (by omega)
          rw [row_get hltj, if_neg (Nat.lt_irrefl _)] at qr
          obtain ⟨ta, hta⟩ : ∃ x, us[j]! = x := ⟨_, rfl⟩
          rw [hta] at q0 qr
          have hGl : gd < wr.heap.size := (Array.getElem?_eq_some_iff.1 T4.row).1
          obtain ⟨tb, v0, v1, v2, rb⟩ := unhide HCR j hltj
          rw [row_get hltj] at rb
          have HCC : Hid (∀ W, Below wr.heap.size wr W → (fun w' : World => (w'.cell? ⟨gd, j * 3, none⟩ = some (.bool ta.s) ∧ w'.cell? ⟨gd, j * 3 + 1, none⟩ = some (.slice ta.a1 ta.n1 ta.c1) ∧ w'.cell? ⟨gd, j * 3 + 2, none⟩ = some (.slice ta.a2 ta.n2 ta.c2)) ∧ (w'.cell? ⟨br, oR + j * 3, none⟩ = some (.bool tb.s) ∧ w'.cell? ⟨br, oR + j * 3 + 1, none⟩ = some (.slice tb.a1 tb.n1 tb.c1) ∧ w'.cell? ⟨br, oR + j * 3 + 2, none⟩ = some (.slice tb.a2 tb.n2 tb.c2))) W) := fun W hW => by
            have h2 := below_step hb hW
            refine ⟨⟨?_, ?_, ?_⟩, ?_, ?_, ?_⟩
            · rw [hW.cell (p := ⟨gd, j * 3, none⟩) hGl]; exact q0.1
            · rw [hW.cell (p := ⟨gd, j * 3 + 1, none⟩) hGl]; exact q0.2.1
            · rw [hW.cell (p := ⟨gd, j * 3 + 2, none⟩) hGl]; exact q0.2.2
            · rw [h2.cell (p := ⟨br, oR + j * 3, none⟩) (unhide HBRL)]; exact v0
            · rw [h2.cell (p := ⟨br, oR + j * 3 + 1, none⟩) (unhide HBRL)]; exact v1
            · rw [h2.cell (p := ⟨br, oR + j * 3 + 2, none⟩) (unhide HBRL)]; exact v2
          have HTA := hide qr
          have HTB := hide (rb.below hb)
          have HRA : Hid (RS (A t j / q) 30000000) := (RS.div' (unhide HAR t j hlt hltj) (unhide HQR) (fun e => unhide HQ0 (Rat.num_eq_zero.1 e))).mono (by decide)
          have HRB : Hid (RS (B (T - 1 - t) j) 30000000) := (unhide HBR (T - 1 - t) j (by omega) hltj).mono (by decide)
          have HQV : Hid ((row (fun i => if i < j then smo_ A B q T t i else A t i / q) n).set j (A t j / q * B (T - 1 - t) j) = row (fun i => if i < j + 1 then smo_ A B q T t i else A t i / q) n) := row_setq hltj (by rw [if_pos (Nat.lt_succ_self _)]; rfl) (fun i _ hi => by
            by_cases e : i < j
            · rw [if_pos e, if_pos (by omega)]
            · rw [if_neg e, if_neg (by omega)])
          have HS5 := hide T4
          have HUL := hide hus
          clear T4 hb q0 qr hta hGl v0 v1 v2 rb hus
          go_wp2_with fail
          refine wp_region_till (fun w' : World => (w'.cell? ⟨gd, j * 3, none⟩ = some (.bool ta.s) ∧ w'.cell? ⟨gd, j * 3 + 1, none⟩ = some (.slice ta.a1 ta.n1 ta.c1) ∧ w'.cell? ⟨gd, j * 3 + 2, none⟩ = some (.slice ta.a2 ta.n2 ta.c2)) ∧ (w'.cell? ⟨br, oR + j * 3, none⟩ = some (.bool tb.s) ∧ w'.cell? ⟨br, oR + j * 3 + 1, none⟩ = some (.slice tb.a1 tb.n1 tb.c1) ∧ w'.cell? ⟨br, oR + j * 3 + 2, none⟩ = some (.slice tb.a2 tb.n2 tb.c2))) 12 (by kernel_rfl) ?_
          have bd0 : Below wr.heap.size wr wr.drew := (Below.refl _ _).drew
          obtain ⟨Wd, hWd⟩ : ∃ W, wr.drew = W := ⟨_, rfl⟩
          rw [hWd] at bd0 ⊢
          have hC0 : (fun w' : World => (w'.cell? ⟨gd, j * 3, none⟩ = some (.bool ta.s) ∧ w'.cell? ⟨gd, j * 3 + 1, none⟩ = some (.slice ta.a1 ta.n1 ta.c1) ∧ w'.cell? ⟨gd, j * 3 + 2, none⟩ = some (.slice ta.a2 ta.n2 ta.c2)) ∧ (w'.cell? ⟨br, oR + j * 3, none⟩ = some (.bool tb.s) ∧ w'.cell? ⟨br, oR + j * 3 + 1, none⟩ = some (.slice tb.a1 tb.n1 tb.c1) ∧ w'.cell? ⟨br, oR + j * 3 + 2, none⟩ = some (.slice tb.a2 tb.n2 tb.c2))) Wd := unhide HCC _ bd0
          refine wpTill_pure (i := 0) (v := ?_) rfl (by kernel_rfl) (by kernel_rfl) (by kernel_rfl) (by kernel_rfl) (fun _ _ _ h => h) (Or.inl ⟨by rfl, ?_⟩) (fun _ => hC0) ?_
          rotate_left
          · intro w hSw; clear hSw; go_simp; (try with_reducible rfl)
          (try simp only [List.getElem_toArray, List.getElem_cons_succ, List.getElem_cons_zero])
          (try simp only [Act.put, List.setIfInBounds_toArray, List.set_cons_zero, List.set_cons_succ])
          refine wpTill_pure (i := 1) (v := ?_) rfl (by kernel_rfl) (by kernel_rfl) (by kernel_rfl) (by kernel_rfl) (fun _ _ _ h => h) (Or.inl ⟨by rfl, ?_⟩) (fun _ => hC0) ?_
          rotate_left
          · intro w hSw; clear hSw; go_simp; (try with_reducible rfl)
          (try simp only [List.getElem_toArray, List.getElem_cons_succ, List.getElem_cons_zero])
          (try simp only [Act.put, List.setIfInBounds_toArray, List.set_cons_zero, List.set_cons_succ])
          refine wpTill_pure (i := 2) (v := ?_) rfl (by kernel_rfl) (by kernel_rfl) (by kernel_rfl) (by kernel_rfl) (fun _ _ _ h => h) (Or.inl ⟨by rfl, ?_⟩) (fun _ => hC0) ?_
          rotate_left
          · intro w hSw; clear hSw; go_simp; (try with_reducible rfl)
          (try simp only [List.getElem_toArray, List.getElem_cons_succ, List.getElem_cons_zero])
          (try simp only [Act.put, List.setIfInBounds_toArray, List.set_cons_zero, List.set_cons_succ])
          refine wpTill_pure (i := 3) (v := ?_) rfl (by kernel_rfl) (by kernel_rfl) (by kernel_rfl) (by kernel_rfl) (fun _ _ _ h => h) (Or.inl ⟨by rfl, ?_⟩) (fun _ => hC0) ?_
          rotate_left
          · intro w hSw; clear hSw; go_simp; (try with_reducible rfl)
          (try simp only [List.getElem_toArray, List.getElem_cons_succ, List.getElem_cons_zero])
          (try simp only [Act.put, List.setIfInBounds_toArray, List.set_cons_zero, List.set_cons_succ])
          refine wpTill_pure (i := 4) (v := ?_) rfl (by kernel_rfl) (by kernel_rfl) (by kernel_rfl) (by kernel_rfl) (fun _ _ _ h => h) (Or.inl ⟨by rfl, ?_⟩) (fun _ => hC0) ?_
          rotate_left
          · intro w hSw; clear hSw; go_simp; (try with_reducible rfl)
          (try simp only [List.getElem_toArray, List.getElem_cons_succ, List.getElem_cons_zero])
          (try simp only [Act.put, List.setIfInBounds_toArray, List.set_cons_zero, List.set_cons_succ])
          refine wpTill_take (i := 5) (v := ?_) rfl (by kernel_rfl) (by kernel_rfl) (by kernel_rfl) (by kernel_rfl) (by kernel_rfl) (by kernel_rfl) (fun _ _ _ h => h) (Or.inl ⟨by rfl, ?_⟩) hC0 ?_
          rotate_left
          · intro w hSw; (try dsimp only at hSw); obtain ⟨⟨u0, u1, u2⟩, ⟨u3, u4, u5⟩⟩ := hSw; go_simp; (try with_reducible rfl)
          (try simp only [List.getElem_toArray, List.getElem_cons_succ, List.getElem_cons_zero])
          (try simp only [Act.put, List.setIfInBounds_toArray, List.set_cons_zero, List.set_cons_succ])
          refine wpTill_pure (i := 6) (v := ?_) rfl (by kernel_rfl) (by kernel_rfl) (by kernel_rfl) (by kernel_rfl) (fun _ _ _ h => h) (Or.inl ⟨by rfl, ?_⟩) (fun _ => hC0) ?_
          rotate_left
          · intro w hSw; clear hSw; go_simp; (try with_reducible rfl)
          (try simp only [List.getElem_toArray, List.getElem_cons_succ, List.getElem_cons_zero])
          (try simp only [Act.put, List.setIfInBounds_toArray, List.set_cons_zero, List.set_cons_succ])
          refine wpTill_pure (i := 7) (v := ?_) rfl (by kernel_rfl) (by kernel_rfl) (by kernel_rfl) (by kernel_rfl) (fun _ _ _ h => h) (Or.inl ⟨by rfl, ?_⟩) (fun _ => hC0) ?_
          rotate_left
          · intro w hSw; clear hSw; go_simp; (try with_reducible rfl)
          (try simp only [List.getElem_toArray, List.getElem_cons_succ, List.getElem_cons_zero])
          (try simp only [Act.put, List.setIfInBounds_toArray, List.set_cons_zero, List.set_cons_succ])
          refine wpTill_pure (i := 8) (v := ?_) rfl (by kernel_rfl) (by kernel_rfl) (by kernel_rfl) (by kernel_rfl) (fun _ _ _ h => h) (Or.inl ⟨by rfl, ?_⟩) (fun _ => hC0) ?_
          rotate_left
          · intro w hSw; clear hSw; go_simp; (try with_reducible rfl)
          (try simp only [List.getElem_toArray, List.getElem_cons_succ, List.getElem_cons_zero])
          (try simp only [Act.put, List.setIfInBounds_toArray, List.set_cons_zero, List.set_cons_succ])
          refine wpTill_take (i := 9) (v := ?_) rfl (by kernel_rfl) (by kernel_rfl) (by kernel_rfl) (by kernel_rfl) (by kernel_rfl) (by kernel_rfl) (fun _ _ _ h => h) (Or.inl ⟨by rfl, ?_⟩) hC0 ?_
          rotate_left
          · intro w hSw; (try dsimp only at hSw); obtain ⟨⟨u0, u1, u2⟩, ⟨u3, u4, u5⟩⟩ := hSw; go_simp; (try with_reducible rfl)
          (try simp only [List.getElem_toArray, List.getElem_cons_succ, List.getElem_cons_zero])
          (try simp only [Act.put, List.setIfInBounds_toArray, List.set_cons_zero, List.set_cons_succ])
          refine wpTill_one (k := 10) (by kernel_rfl) rfl (fun K hK => ?_)
          (try simp only [List.getElem_toArray, List.getElem_cons_succ, List.getElem_cons_zero])
          go_simp
          refine (mulR_any ta.val tb.val _ _ _ ((unhide HTA).below bd0) ((unhide HTB).below bd0) 30000000 (unhide HRA) (unhide HRB) (unhide HKK)).mono ?_
          rintro e xw_1 ⟨xv_1, rfl, hv_1, hb_1⟩
          have cc_1 := below_step bd0 hb_1
          have hC_1 : (fun w' : World => (w'.cell? ⟨gd, j * 3, none⟩ = some (.bool ta.s) ∧ w'.cell? ⟨gd, j * 3 + 1, none⟩ = some (.slice ta.a1 ta.n1 ta.c1) ∧ w'.cell? ⟨gd, j * 3 + 2, none⟩ = some (.slice ta.a2 ta.n2 ta.c2)) ∧ (w'.cell? ⟨br, oR + j * 3, none⟩ = some (.bool tb.s) ∧ w'.cell? ⟨br, oR + j * 3 + 1, none⟩ = some (.slice tb.a1 tb.n1 tb.c1) ∧ w'.cell? ⟨br, oR + j * 3 + 2, none⟩ = some (.slice tb.a2 tb.n2 tb.c2))) xw_1 := unhide HCC _ cc_1
          refine hK.out _ _ (fun _ => hC_1) ?_
          clear hK K
          (try simp only [Act.put, List.setIfInBounds_toArray, List.set_cons_zero, List.set_cons_succ])
          refine wpTill_pure (i := 11) (v := ?_) rfl (by kernel_rfl) (by kernel_rfl) (by kernel_rfl) (by kernel_rfl) (fun _ _ _ h => h) (Or.inl ⟨by rfl, ?_⟩) (fun _ => hC_1) ?_
          rotate_left
          · intro w hSw; clear hSw; go_simp; (try with_reducible rfl)
          (try simp only [List.getElem_toArray, List.getElem_cons_succ, List.getElem_cons_zero])
          (try simp only [Act.put, List.setIfInBounds_toArray, List.set_cons_zero, List.set_cons_succ])
          obtain ⟨t5, rfl, r5⟩ := tri_of hv_1
          simp only [Tri.val]
          have S8 := (unhide HS5).keep cc_1
          have ⟨⟨y0, y1, y2⟩, g0, g1, g2⟩ := S8.cells j (by rw [unhide HUL]; exact hltj)
          have FZ := S8.set j (by rw [unhide HUL]; exact hltj) t5 _ r5
          obtain ⟨W9, hW9⟩ : ∃ W, ((xw_1.setCell ⟨gd, j * 3, none⟩ (.bool t5.s)).setCell ⟨gd, j * 3 + 1, none⟩ (.slice t5.a1 t5.n1 t5.c1)).setCell ⟨gd, j * 3 + 2, none⟩ (.slice t5.a2 t5.n2 t5.c2) = W := ⟨_, rfl⟩
          rw [hW9, unhide HQV] at FZ
          have HFZ := hide FZ
          clear S8 FZ r5 hv_1
          refine wpTill_one (k := 12) (by kernel_rfl) rfl (fun K hK => ?_)
          (try simp only [List.getElem_toArray, List.getElem_cons_succ, List.getElem_cons_zero])
          go_simp
          refine hK.out _ _ (fun h => absurd (h.symm.trans (by kernel_rfl)) Bool.false_ne_true) ?_
          clear hK K
          (try simp only [Act.put, List.setIfInBounds_toArray, List.set_cons_zero, List.set_cons_succ])
          refine wpTill_done (by kernel_rfl) ?_ _
          clear HCC HTA HTB HS5 y0 y1 y2 g0 g1 g2 hW9 hC0 hC_1 cc_1 bd0 hb_1 hWd
          go_wp2_with fail
          exact ⟨⟨j + 1, _, by go_num, hltj, by rw [List.length_set] <;> exact unhide HUL, unhide HFZ⟩, by simp [intOf]; omega⟩
        · obtain rfl : j = n := by omega
          have j1 : ¬ (j : Int) < (j : Int) := by omega
          have hlw := T4.law (by omega)
          rw [hus] at hlw
          have hrw : row (fun i => if i < j then smo_ A B q T t i else A t i / q) j = row (smo_ A B q T t) j := row_congr (fun i hi => by rw [if_pos hi])
          rw [hrw] at hlw
          have S6 := (unhide HSX).keep T4.bl
          have hl6 : LawIs wr (Sl.val (some ⟨gd, 0, none⟩, j, j)) (mrows T j (mix (t + 1) (smo_ A B q T) A))[t]! := by
            rw [mrows_get hlt]
            have : mix (t + 1) (smo_ A B q T) A t = smo_ A B q T t := by unfold mix; rw [if_pos (Nat.lt_succ_self _)]
            rw [this]; exact hlw
          have FZ := S6.put (ks' := mrows T j (mix (t + 1) (smo_ A B q T) A)) (j := t) (by have := unhide HTS5; omega) (some ⟨gd, 0, none⟩, j, j) hl6 (fun _ ad e he => by
            have e : some (⟨gd, 0, none⟩ : Addr) = some ad := e
            injection e with e
            injection he with he
            rw [← e] at he
            simp only at he
            have h1 := unhide HGL
            have h2 := unhide HGD
            omega) (fun i hi hne => by
            have hi : i < T := by have := unhide HTS5; omega
            rw [mrows_get hi, mrows_get hi]
            have : mix (t + 1) (smo_ A B q T) A i = mix t (smo_ A B q T) A i := by
              unfold mix
              by_cases e : i < t
              · rw [if_pos e, if_pos (by omega)]
              · rw [if_neg e, if_neg (by omega)]
            rw [this])
          have hYC : ∃ x, wr.cell? ⟨g, t, none⟩ = some x ∧ wr.frozen? ⟨g, t, none⟩ = false := by
            rcases S6.own.2 with ⟨h1, _⟩ | ⟨g', cap', cur, hv, hbg, hh, hr1, _⟩
            · cases h1
            · injection hv with e1
              injection e1 with e1
              injection e1 with e1
              subst e1
              obtain ⟨g2, _, e2, _, _, _, _, c2, _⟩ := S6.at (j := t) (by have := unhide HTS5; omega)
              injection e2 with e2
              injection e2 with e2
              injection e2 with e2
              subst e2
              exact ⟨_, c2, by simp [World.frozen?, hh]⟩
          obtain ⟨xx, y0, y1⟩ := hYC
          have hgb := unhide HGB ⟨g, 0, none⟩ rfl
          have hno := S6.no g rfl
          have X6 := (unhide HXX).keep T4.bl
          have FX : BoxIs (wr.setCell ⟨g, t, none⟩ (.slice (some ⟨gd, 0, none⟩) j j)) b8 tq q := ⟨by rw [Below.heap_setCell _ _ _ _ (by show b8 ≠ g; exact fun e => hgb.2 e.symm)]; exact X6.1, X6.2.far (grown_set wr g t _) (fun x e => by injection e with e; rw [← e]; exact hno)⟩
          have FR := ((unhide HRFX).below T4.bl).map (w' := wr.setCell ⟨g, t, none⟩ (.slice (some ⟨gd, 0, none⟩) j j)) (by simp [World.setCell]) (fun k hk _ => by
            have h1 := hgb.1
            simp only at h1
            rw [Below.heap_setCell _ _ _ _ (by show k ≠ g; omega)]) (fun v q h => h.far (grown_set wr g t _) (fun x e => by injection e with e; rw [← e]; exact hno))
          obtain ⟨W7, hW7⟩ : ∃ W, wr.setCell ⟨g, t, none⟩ (.slice (some ⟨gd, 0, none⟩) j j) = W := ⟨_, rfl⟩
          have HFZ : Hid (RsAt w1 W7 (.slice (some ⟨g, 0, none⟩) T cap2) (ts.set t (some ⟨gd, 0, none⟩, j, j)) (mrows T j (mix (t + 1) (smo_ A B q T) A))) := by rw [← hW7]; exact FZ
          rw [hW7] at FX FR
          have HFX := hide FX
          have HFR := hide FR
          clear S6 hl6 FZ hlw hrw T4 X6 FX FR hno hgb hus
          go_wp2_with fail
          exact ⟨⟨t + 1, _, by go_num, hlt, by rw [List.length_set] <;> exact unhide HTS5, unhide HFZ, unhide HFX, unhide HFR⟩, by simp [intOf]; omega⟩
    · obtain rfl : t = T := by omega
      have f1 : ¬ (t : Int) < (t : Int) := by omega
      have hrw := S.rows (by rw [mrows_length]; exact hts)
      rw [mix_all] at hrw
      have HRW := hide hrw
      have HB := hide (below_step (below_step (unhide HB0) (unhide HB1)) S.bl)
      clear S hrw X hrf
      go_wp2
      go_ret2
      refine Or.inl ⟨unhide HZ, by rw [unhide HQ]; exact unhide HQ0, a2, cap2, rfl, ?_, unhide HB⟩
      rw [unhide HA, unhide HBB, unhide HQ, unhide HN]
      exact unhide HRW

end Go.Proofs.YtfnbjenneodcdaaGreatDoor
/- What BeliefSums needs: sums of both beliefs. -/
namespace Go.Proofs.YtfnbjenneodcdaaGreatDoor
open Go.RowKit Go.Sort Go.Shelf

theorem flt_one {A : Nat → Nat → Rat} {n t : Nat} (h : Bth.ps (A t) n ≠ 0) : Bth.ps (flt_ A n t) n = 1 := by
  show Bth.ps (fun i => A t i / Bth.ps (A t) n) n = 1
  rw [Bth.ps_div]
  exact Bth.div_self h
theorem smo_one {m : Blf.Hm} {s : Nat → Nat} {T t : Nat} (ht : t < T) (hq : Blf.seen m s T ≠ 0) : Bth.ps (smo_ (Blf.al m s) (Blf.bw m s T (Blf.mn m.n)) (Blf.seen m s T) T t) m.n = 1 := by
  have hb := Blf.both (m := m) (s := s) (T := T) (T - 1 - t) t (by omega)
  obtain ⟨u, rfl⟩ : ∃ u, T = u + 1 := ⟨T - 1, by omega⟩
  have hs : Blf.seen m s (u + 1) = Bth.ps (Blf.al m s u) m.n := rfl
  have e : Bth.ps (smo_ (Blf.al m s) (Blf.bw m s (u + 1) (Blf.mn m.n)) (Blf.seen m s (u + 1)) (u + 1) t) m.n = Bth.ps (fun i => Blf.al m s t i * Blf.bw m s (u + 1) (Blf.mn m.n) (u + 1 - 1 - t) i / Blf.seen m s (u + 1)) m.n := Bth.ps_congr _ (fun i _ => by
    unfold smo_
    rw [Rat.div_def, Rat.div_def]
    grind)
  rw [e, Bth.ps_div, hb, hs]
  show Bth.ps (Blf.al m s u) m.n / Bth.ps (Blf.al m s u) m.n = 1
  exact Bth.div_self (by rw [← hs]; exact hq)
theorem last_same {m : Blf.Hm} {s : Nat → Nat} {u : Nat} (i : Nat) : flt_ (Blf.al m s) m.n u i = smo_ (Blf.al m s) (Blf.bw m s (u + 1) (Blf.mn m.n)) (Blf.seen m s (u + 1)) (u + 1) u i := by
  unfold flt_ smo_
  have e : u + 1 - 1 - u = 0 := by omega
  rw [e]
  show _ = Blf.al m s u i / Bth.ps (Blf.al m s u) m.n * 1
  rw [Rat.mul_one]
theorem more_signs {m : Blf.Hm} {K : Nat} (h : Blf.Ok m K) (s : Nat → Nat) (T : Nat) : Bth.ps (fun k => Blf.seen m (Blf.snoc s T k) (T + 1)) K = Blf.seen m s T := Blf.more h s T

end Go.Proofs.YtfnbjenneodcdaaGreatDoor
/- The signs with one more sign: what is made in any order. -/
namespace Go.Proofs.YtfnbjenneodcdaaGreatDoor
open Go.RowKit Go.Sort Go.Shelf

theorem app_none {P : Program} (w : World) (t ty e : TypeId) (i : TypeInfo) (ht : P.underlying t = some (.slice e)) (hi : P.info? e = some i) (b : Addr) (a : Option Addr) (n cap c : Nat) (hle : n ≤ cap) :
    (Builtin.append_ #[t, t] ty #[.slice (some b) n cap, .slice a 0 c]).run P w = .ok (.slice (some b) n cap) w := by
  cases a <;> simp [Builtin.append_, run_underlying ht, Builtin.lenOf, Builtin.firstCells, sizeOf, typeInfo, hi, hle, storeCells, loadCells, loadCellsFrom]
theorem step_append_none {P : Program} {w : World} {ops : Array Oper} {o : Oper} {a : Act} {K : Act → World → Prop} {Q : Exit → Act → World → Prop} {E : Prop} (hgd : o.guard = none) (s x : Operand) (t : TypeId)
    (ho : o.op = .call { callee := .builtin .append, args := #[s, x], argTypes := #[t, t] }) (e : TypeId) (i : TypeInfo) (ht : P.underlying t = some (.slice e)) (hi : P.info? e = some i)
    (b : Addr) (n cap : Nat) (hle : n ≤ cap) (hs : a.eval s = .slice (some b) n cap) (ad : Option Addr) (c : Nat) (hx : a.eval x = .slice ad 0 c)
    (h : K (a.put o.dst (.slice (some b) n cap)) w) : if Region.wanted o (yielded ops a.tmps) = true then Oper.wp P o a w K Q else E := by
  have hw : Region.wanted o (yielded ops a.tmps) = true := by simp [Region.wanted, hgd]
  rw [if_pos hw]
  have hr := app_none (P := P) w t o.type e i ht hi b ad n cap c hle
  unfold Oper.wp execOp
  simp only [ho, resolve, invoke, builtin, Sem.run_bind, Sem.run_pure, Result.andThen_ok, List.map_toArray, List.map_cons, List.map_nil, hs, hx, hr]
  exact h
theorem step_app {ops : Array Oper} {o : Oper} {a : Act} {w : World} {K : Act → World → Prop} {Q : Exit → Act → World → Prop} {E : Prop} (hgd : o.guard = none) (s x : Operand)
    (ho : o.op = .call { callee := .builtin .append, args := #[s, x], argTypes := #[36, 36] }) (ti : TypeInfo) (hi : Tryz.prog.info? 3 = some ti) (hz0 : ti.zero = some (.int .i64 0)) (hz1 : ti.size = 1) (hz2 : ti.bytes = 8)
    (base g n cap : Nat) (xs : List Value) (hs : a.eval s = .slice (some ⟨g, 0, none⟩) n cap) (hown : w.ownsRow base 3 1 (.slice (some ⟨g, 0, none⟩) n cap) n xs)
    (ad : Addr) (m c : Nat) (news : List Value) (hx : a.eval x = .slice (some ad) m c) (hl : news.length = m) (hnews : ∀ j u, news[j]? = some u → w.cell? (ad.add j) = some u) (h1 : ∀ u ∈ news, u.oneCell' = true)
    (hnm : n + m ≤ 100000) (hbase : base ≤ w.heap.size)
    (h : ∀ g' cap' w', w'.ownsRow base 3 1 (.slice (some ⟨g', 0, none⟩) (n + m) cap') (n + m) (xs ++ news) → w.grownBy w' (some g) → (g' = g ∨ g' = w.heap.size) → K (a.put o.dst (.slice (some ⟨g', 0, none⟩) (n + m) cap')) w') :
    if Region.wanted o (yielded ops a.tmps) = true then Oper.wp Tryz.prog o a w K Q else E := by
  by_cases h0 : m = 0
  · subst h0
    have hne : news = [] := List.eq_nil_of_length_eq_zero hl
    subst hne
    have hle : n ≤ cap := by
      rcases hown.2 with ⟨e, _⟩ | ⟨g', cap', cur, hv, _, _, hle, _⟩
      · cases e
      · injection hv with e1 e2 e3; omega
    refine step_append_room hgd s x 36 ho 3 ti 1 Tryz.underlying36 hi hz1 g 0 n cap hs ad 0 c [] hx (by simp) (fun j u hu => by simp at hu) (fun u hu => absurd hu List.not_mem_nil) (by omega) (fun j hj => absurd hj (Nat.not_lt_zero _)) ?_
    exact h g cap w (by rw [Nat.add_zero, List.append_nil]; exact hown) ⟨rfl, rfl, rfl, Nat.le_refl _, fun _ _ _ => rfl⟩ (Or.inl rfl)
  · refine step_append_lies _ hgd s x 36 ho base 3 ti (.int .i64 0) 1 8 Tryz.underlying36 hi hz0 hz1 hz2 rfl (by decide) _ n xs hs hown ad m c news hx (by rw [hl, Nat.mul_one]) hnews h1 (by omega) (by unfold maxLen; omega) (by omega) hbase _ rfl ?_
    intro g' cap' w' h2 h3 h4 _
    refine h g' cap' w' h2 h3 ?_
    rcases h4 with e | e
    · exact Or.inl (Option.some.inj e).symm
    · exact Or.inr e
def nx25 (s : Nat × Bool × Bool) (i : Nat) : Option (Nat × Bool × Bool) :=
  if i = 1 ∧ s.1 = 0 then some (1, s.2.1, s.2.2) else if i = 3 ∧ s.1 = 1 then some (2, s.2.1, s.2.2) else if i = 6 ∧ s.1 = 2 ∧ s.2.1 = true then some (3, s.2.1, s.2.2) else if i = 7 ∧ s.1 = 3 then some (4, s.2.1, s.2.2) else if i = 5 ∧ s.2.1 = false then some (s.1, true, s.2.2) else if i = 11 ∧ s.2.2 = false then some (s.1, s.2.1, true) else none
def fu25 (s : Nat × Bool × Bool) : Nat := 5 + (4 - s.1) + (if s.2.1 = true then 0 else 1) + (if s.2.2 = true then 0 else 1)
theorem chain25_any {P : Program} {ops : Array Oper} {Q : Exit → Act → World → Prop} {C : World → Prop} {md : Region.Mode} (mk : Nat × Bool × Bool → Array Bool) (I : Nat → Bool → Bool → Act → World → Prop)
    (hne : ∀ s : Nat × Bool × Bool, s.1 < 4 → (Region.ready md ops (mk s)).isEmpty = false)
    (hck : ∀ s : Nat × Bool × Bool, s.1 < 4 → (Region.ready md ops (mk s)).all (fun m => match nx25 s m with | some s' => ((mk s).setIfInBounds m true == mk s') && (fu25 s == fu25 s' + 1) | none => false) = true)
    (h1 : ∀ b l a w, I 0 b l a w → wpOp P ops Q 1 (fun a' w' => C w' ∧ I 1 b l a' w') a w)
    (h3 : ∀ b l a w, I 1 b l a w → wpOp P ops Q 3 (fun a' w' => C w' ∧ I 2 b l a' w') a w)
    (h6 : ∀ l a w, I 2 true l a w → wpOp P ops Q 6 (fun a' w' => C w' ∧ I 3 true l a' w') a w)
    (h7 : ∀ b l a w, I 3 b l a w → wpOp P ops Q 7 (fun a' w' => C w' ∧ I 4 b l a' w') a w)
    (h5 : ∀ c l a w, I c false l a w → wpOp P ops Q 5 (fun a' w' => C w' ∧ I c true l a' w') a w)
    (h11 : ∀ c b a w, I c b false a w → wpOp P ops Q 11 (fun a' w' => C w' ∧ I c b true a' w') a w)
    (hf : ∀ c b l a w, 4 ≤ c → I c b l a w → wpHold P md ops Q C (fu25 (c, b, l)) (mk (c, b, l)) a w) : ∀ a w, I 0 false false a w → wpHold P md ops Q C 11 (mk (0, false, false)) a w := by
  intro a w h
  refine walk_any mk fu25 (fun s => decide (4 ≤ s.1)) nx25 (fun s a w => I s.1 s.2.1 s.2.2 a w) (fun s hs => hne s (by have := of_decide_eq_false hs; omega)) ?_ ?_ ?_ 11 (0, false, false) rfl a w h
  · intro s hs
    have h1 := hck s (by have := of_decide_eq_false hs; omega)
    rw [List.all_eq_true] at h1 ⊢
    intro m hm
    have h2 := h1 m hm
    cases e : nx25 s m with
    | none => rw [e] at h2; cases h2
    | some s' => rw [e] at h2; exact h2
  · rintro ⟨c, b, l⟩ m s' hs a w h
    unfold nx25 at hs
    by_cases k1 : m = 1 ∧ c = 0
    · obtain ⟨rfl, rfl⟩ := k1
      rw [if_pos ⟨rfl, rfl⟩] at hs
      injection hs with hs
      subst hs
      exact h1 b l a w h
    rw [if_neg k1] at hs
    by_cases k3 : m = 3 ∧ c = 1
    · obtain ⟨rfl, rfl⟩ := k3
      rw [if_pos ⟨rfl, rfl⟩] at hs
      injection hs with hs
      subst hs
      exact h3 b l a w h
    rw [if_neg k3] at hs
    by_cases k6 : m = 6 ∧ c = 2 ∧ b = true
    · obtain ⟨rfl, rfl, rfl⟩ := k6
      rw [if_pos ⟨rfl, rfl, rfl⟩] at hs
      injection hs with hs
      subst hs
      exact h6 l a w h
    rw [if_neg k6] at hs
    by_cases k7 : m = 7 ∧ c = 3
    · obtain ⟨rfl, rfl⟩ := k7
      rw [if_pos ⟨rfl, rfl⟩] at hs
      injection hs with hs
      subst hs
      exact h7 b l a w h
    rw [if_neg k7] at hs
    by_cases k5 : m = 5 ∧ b = false
    · obtain ⟨rfl, rfl⟩ := k5
      rw [if_pos ⟨rfl, rfl⟩] at hs
      injection hs with hs
      subst hs
      exact h5 c l a w h
    rw [if_neg k5] at hs
    by_cases k11 : m = 11 ∧ l = false
    · obtain ⟨rfl, rfl⟩ := k11
      rw [if_pos ⟨rfl, rfl⟩] at hs
      injection hs with hs
      subst hs
      exact h11 c b a w h
    rw [if_neg k11] at hs
    cases hs
  · rintro ⟨c, b, l⟩ hs a w h
    exact hf c b l a w (of_decide_eq_true hs) h
/-- What stands while the signs get one more. -/
structure SgJ (T k : Nat) (f : Nat → Int) (q : Rat) (w0 : World) (c : Nat) (b l : Bool) (w : World) (s1 s2 s3 s4 s5 s6 : Value) : Prop where
  bl : Below w0.heap.size w0 w
  bb : 3 ≤ c → b = true
  e1 : c = 1 → ∃ g, s1 = .slice (some ⟨g, 0, none⟩) 0 0 ∧ w.heap[g]? = some (.cells #[] 3) ∧ w0.heap.size ≤ g
  e2 : c = 2 → ∃ g cap, s2 = .slice (some ⟨g, 0, none⟩) T cap ∧ w.ownsRow w0.heap.size 3 1 s2 T (lrow f T) ∧ (b = true → ∀ g3, s3 = .slice (some ⟨g3, 0, none⟩) 1 1 → g ≠ g3)
  e3 : b = true → c ≤ 2 → ∃ g, s3 = .slice (some ⟨g, 0, none⟩) 1 1 ∧ w.heap[g]? = some (.cells #[.int .i64 (k : Int)] 3) ∧ w0.heap.size ≤ g
  e4 : c = 3 → ∃ g cap, s4 = .slice (some ⟨g, 0, none⟩) (T + 1) cap ∧ w.ownsRow w0.heap.size 3 1 s4 (T + 1) (lrow f T ++ [.int .i64 (k : Int)])
  e5 : 4 ≤ c → ∃ t : Tri, s5 = .tuple #[t.val, .nilIface] ∧ RatIs w t.val q
  al : l = true → ∃ x, s6 = .pointer (some ⟨x, 0, none⟩) ∧ BoxIs w x zTri 0 ∧ w0.heap.size ≤ x
theorem own_int {w : World} {B : Nat} {v : Value} {n : Nat} {xs : List Value} (h : w.ownsRow B 3 1 v n xs) : ∀ k, v.ownBlock = some k → B ≤ k ∧ k < w.heap.size ∧ ∀ cs T, T ≠ 3 → w.heap[k]? ≠ some (.cells cs T) := by
  intro k hk
  obtain ⟨h1, ⟨rfl, _⟩ | ⟨g, cap, cur, rfl, hb, hh, hr⟩⟩ := h
  · cases hk
  · have : g = k := Option.some.inj hk
    subst this
    refine ⟨hb, (Array.getElem?_eq_some_iff.1 hh).1, fun cs T hT e => ?_⟩
    rw [e] at hh
    injection hh with hh
    injection hh with _ hh
    exact hT hh
theorem own_int_keep {w w' : World} {B : Nat} {v : Value} {n : Nat} {xs : List Value} (h : w.ownsRow B 3 1 v n xs) (hb : Below w.heap.size w w') : w'.ownsRow B 3 1 v n xs := by
  refine ⟨h.1, ?_⟩
  rcases h.2 with h2 | ⟨g, cap, cur, hv, hbg, hh, hr⟩
  · exact Or.inl h2
  · exact Or.inr ⟨g, cap, cur, hv, hbg, by rw [hb.block g (Array.getElem?_eq_some_iff.1 hh).1]; exact hh, hr⟩
/-- A box of a fraction is kept where a row of ints grows. -/
theorem BoxIs.intgrow {w w' : World} {x : Nat} {t : Tri} {g : Nat} (h : BoxIs w x zTri 0) (hg : w.grownBy w' (some g)) (hne : ∀ cs T, T ≠ 3 → w.heap[g]? ≠ some (.cells cs T)) (_t : t = t) : BoxIs w' x zTri 0 :=
  ⟨by rw [hg.block x h.lt (fun e => by injection e with e; subst e; exact absurd h.1 (hne _ _ (by decide)))]; exact h.1, rat_zero _⟩
theorem nrow_of_own {w : World} {B g cap n : Nat} {f : Nat → Int} (h : w.ownsRow B 3 1 (.slice (some ⟨g, 0, none⟩) n cap) n (lrow f n)) : NRow w (.slice (some ⟨g, 0, none⟩) n cap) n f := by
  rcases h.2 with ⟨h1, _⟩ | ⟨g', cap', cur, hv, hbg, hh, hc1, hc2, hs, ht⟩
  · cases h1
  · injection hv with e1 e2 e3
    injection e1 with e1
    injection e1 with e1
    subst e1
    subst e3
    refine ⟨_, _, rfl, hc1, by unfold maxLen at hc2; exact hc2, fun _ => ⟨g, 0, rfl, (Array.getElem?_eq_some_iff.1 hh).1, fun j hj => ?_⟩⟩
    simp only [World.cell?, hh, Nat.zero_add]
    have e : (cur.toList.take (n * 1))[j]? = (lrow f n)[j]? := by rw [ht]
    rw [List.getElem?_take_of_lt (by omega), lrow_get f hj] at e
    simpa using e
def fmore (f : Nat → Int) (T k : Nat) (i : Nat) : Int := if i = T then (k : Int) else f i
theorem lrow_more (f : Nat → Int) (T k : Nat) : lrow f T ++ [.int .i64 (k : Int)] = lrow (fmore f T k) (T + 1) := by
  unfold lrow
  rw [List.range_succ, List.map_append]
  congr 1
  · refine List.map_congr_left (fun i hi => ?_)
    have := List.mem_range.1 hi
    unfold fmore
    rw [if_neg (by omega)]
  · unfold fmore
    simp
theorem seen_more {m : Blf.Hm} (f : Nat → Int) (T k : Nat) : Blf.seen m (sOf (fmore f T k)) (T + 1) = Blf.seen m (Blf.snoc (sOf f) T k) (T + 1) := by
  show Bth.ps (Blf.al m _ T) m.n = Bth.ps (Blf.al m _ T) m.n
  rw [Blf.al_congr (s := sOf (fmore f T k)) (s' := Blf.snoc (sOf f) T k) T (fun u _ => by
    unfold sOf fmore Blf.snoc
    by_cases e : u = T
    · rw [if_pos e, if_pos e]; omega
    · rw [if_neg e, if_neg e])]
theorem scode_more {fs : List Rat} {P G : List (List Rat)} {T k : Nat} {f : Nat → Int} (h : scode fs P G T f = 0) (hT : T + 1 ≤ 12) (hk : k < (G[0]!).length) : scode fs P G (T + 1) (fmore f T k) = 0 := by
  obtain ⟨h0, _, hs⟩ := scode_good h
  unfold scode
  rw [if_pos h0, if_pos hT]
  have e : anyS (G[0]!).length (fmore f T k) (T + 1) = false := anyS_false (fun j hj => by
    unfold badS fmore
    by_cases e : j = T
    · rw [if_pos e, decide_eq_false (by omega), decide_eq_false (by omega)]; rfl
    · have := hs j (by omega)
      rw [if_neg e, decide_eq_false (by omega), decide_eq_false (by omega)]; rfl)
  rw [e]; rfl

end Go.Proofs.YtfnbjenneodcdaaGreatDoor
