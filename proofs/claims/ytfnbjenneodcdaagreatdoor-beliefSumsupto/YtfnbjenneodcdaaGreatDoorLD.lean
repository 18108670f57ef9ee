/- Hidden states: Likely. -/
import Derived.Test.YtfnbjenneodcdaaGreatDoorBL6
import Derived.Test.YtfnbjenneodcdaaGreatDoorLC
namespace Go.Proofs.YtfnbjenneodcdaaGreatDoor
open Go.RowKit Go.Sort Go.Shelf

def asz : Nat → Nat
  | 0 => 2
  | t + 1 => 8 * (asz t + 2) + 2
theorem asz_le {t : Nat} (h : t ≤ 6) : asz t ≤ 1200000 := by
  match t, h with
  | 0, _ | 1, _ | 2, _ | 3, _ | 4, _ | 5, _ | 6, _ => decide
theorem al_RS {fs : List Rat} {P G : List (List Rat)} {s : Nat → Nat} {T : Nat} (gm : GoodH fs P G) (sm : SmHm fs P G) (hs : ∀ i, i < T → s i < (G[0]!).length) : ∀ (t i : Nat), t < T → i < fs.length → RS (Blf.al (hm fs P G) s t i) (asz t)
  | 0, i, ht, hi => ((sm.rf i hi).mul (sm.rg i (s 0) (by rw [gm.gl]; exact hi) (by rw [gm.gx i hi]; exact hs 0 ht))).mono (by decide)
  | t + 1, i, ht, hi => by
    have a := fol_RS gm sm (x := Blf.al (hm fs P G) s t) (fun k hk => al_RS gm sm hs t k (by omega) hk) hi
    have b : RS ((hm fs P G).g i (s (t + 1))) 1 := sm.rg i _ (by rw [gm.gl]; exact hi) (by rw [gm.gx i hi]; exact hs _ ht)
    exact (a.mul b).mono (by show 8 * (asz t + 2) + 1 + 1 ≤ 8 * (asz t + 2) + 2; omega)
theorem al_small {fs : List Rat} {P G : List (List Rat)} {s : Nat → Nat} {T : Nat} (gm : GoodH fs P G) (sm : SmHm fs P G) (hs : ∀ i, i < T → s i < (G[0]!).length) (hT : T ≤ 7) (t i : Nat) (ht : t < T) (hi : i < fs.length) : RS (Blf.al (hm fs P G) s t i) 1200000 := (al_RS gm sm hs t i ht hi).mono (asz_le (by omega))
theorem seenA_is (m : Blf.Hm) (s : Nat → Nat) (T : Nat) : seenA m.n (Blf.al m s) T = Blf.seen m s T := by
  cases T with
  | zero => rfl
  | succ t => rfl
/-- What Likely says. -/
def LikPost (w : World) (fs : List Rat) (P G : List (List Rat)) (T : Nat) (f : Nat → Int) (e : Ending) (w' : World) : Prop :=
  (scode fs P G T f = 0 ∧ ∃ t : Tri, e = .returned (.tuple #[t.val, .nilIface]) ∧ RatIs w' t.val (Blf.seen (hm fs P G) (sOf f) T) ∧ Below w.heap.size w w') ∨
  (scode fs P G T f ≠ 0 ∧ ∃ k, e = .returned (.tuple #[.agg #[.bool false, .slice none 0 0, .slice none 0 0], .iface 59 (.int .i64 k)]) ∧ Below w.heap.size w w')

set_option maxHeartbeats 16000000 in
set_option maxRecDepth 100000 in
set_option linter.unusedSimpArgs false in
theorem likely16_any (v : Value) (sn : Sl) (fs : List Rat) (P G : List (List Rat)) (T : Nat) (f : Nat → Int) (w : World) (h : HmIs w v fs P G) (sm : SmHm fs P G) (hs : NRow w (.slice sn.a T sn.c) T f) (hT7 : T ≤ 7) :
    Calls Tryz.prog 17 #[v, .slice sn.a T sn.c] w (LikPost w fs P G T f) := by
  have KKe : KK = 1099511627776 := rfl
  have HSM := hide sm
  have hsn : T ≤ sn.c ∧ sn.c ≤ 9223372036854775807 := by
    obtain ⟨a, c, e, h1, h2, _⟩ := hs
    have e1 : sn.c = c := by injection e
    rw [e1]; exact ⟨h1, h2⟩
  obtain ⟨hsn1, hsn2⟩ := hsn
  obtain ⟨sf, sp, sg, rfl, hF, hP, hG⟩ := h
  have hfn := law_len hF
  have hpn := rows_len hP
  have hgn := rows_len hG
  obtain ⟨n, hn⟩ : ∃ n, fs.length = n := ⟨_, rfl⟩
  have HN := hide hn
  obtain ⟨np, hnp⟩ : ∃ n, P.length = n := ⟨_, rfl⟩
  have HNP := hide hnp
  obtain ⟨ng, hng⟩ : ∃ n, G.length = n := ⟨_, rfl⟩
  have HNG := hide hng
  rw [hn] at hfn
  rw [hnp] at hpn
  rw [hng] at hgn
  clear hnp hng
  have X0 := HBox.new hF hP hG
  have b0 := alloc_below w (.cells #[.slice sf.a sf.n sf.c, .slice sp.a sp.n sp.c, .slice sg.a sg.n sg.c] 53)
  obtain ⟨W0, hW0⟩ : ∃ W, w.alloc (.cells #[.slice sf.a sf.n sf.c, .slice sp.a sp.n sp.c, .slice sg.a sg.n sg.c] 53) = W := ⟨_, rfl⟩
  obtain ⟨bx, hbx⟩ : ∃ b, w.heap.size = b := ⟨_, rfl⟩
  rw [hW0] at X0 b0
  rw [hbx] at X0
  have HX0 := hide X0
  have HB0 := hide b0
  have HCH : Hid (∀ W, Below W0.heap.size W0 W → (fun w' : World => w'.cell? ⟨bx, 0, none⟩ = some (.slice sf.a n sf.c) ∧ w'.cell? ⟨bx, 1, none⟩ = some (.slice sp.a np sp.c) ∧ w'.cell? ⟨bx, 2, none⟩ = some (.slice sg.a ng sg.c)) W) := fun W hW => by
    have h1 := (unhide HX0).cells W hW
    rw [hfn, hpn, hgn] at h1
    exact h1
  have HIS : Hid (∀ W, Below W0.heap.size W0 W → HmIs W (.agg #[.slice sf.a n sf.c, .slice sp.a np sp.c, .slice sg.a ng sg.c]) fs P G) := fun W hW => by
    have h1 := (unhide HX0).hm.below hW
    unfold hmval at h1
    rw [hfn, hpn, hgn] at h1
    exact h1
  have ⟨c0, c1, c2⟩ := unhide HCH _ (Below.refl _ _)
  have HFN := hide hfn
  have HPN := hide hpn
  have HGN := hide hgn
  unfold hmval
  rw [hfn, hpn, hgn] at hW0 ⊢
  clear hF hP hG X0 b0 hn hfn hpn hgn
  have bR := alloc_below W0 (.cells #[.bool false, .slice none 0 0, .slice none 0 0] 26)
  have XR0 := BoxIs.new (w := W0) (t := zTri) (q := 0) (rat_zero _)
  obtain ⟨W1, hW1⟩ : ∃ W, W0.alloc (.cells #[.bool false, .slice none 0 0, .slice none 0 0] 26) = W := ⟨_, rfl⟩
  obtain ⟨R, hR⟩ : ∃ R, W0.heap.size = R := ⟨_, rfl⟩
  have XR1 : BoxIs W1 R zTri 0 := by rw [← hW1, ← hR]; exact XR0
  rw [hW1] at bR
  have HX : Hid (∀ W, Below W1.heap.size W1 W → BoxIs W R zTri 0) := fun W hW => XR1.keep hW
  have HBW : Hid (∀ W, Below W1.heap.size W1 W → Below w.heap.size w W) := fun W hW => below_step (below_step (unhide HB0) bR) hW
  have HG : Hid (w.heap.size ≤ R) := by show _ ≤ R; rw [← hR]; exact (unhide HB0).size
  have HBR := hide bR
  have HS := hide ((hs.below (unhide HB0)).below bR)
  have HCS := hide (checkSigns_any _ sn fs P G T f W1 (unhide HIS _ bR) (unhide HSM) (unhide HS) (by omega))
  have ⟨d0, d1, d2⟩ := unhide HCH _ bR
  clear hs sm XR0 XR1 bR
  go_enter Tryz.func17, Tryz.ntmps17
  go_wp2_with fail
  clear hW0 hbx c0 c1 c2 d0 d1 d2 hW1 hR
  refine (unhide HCS).mono ?_
  rintro e w1 ⟨rfl, hb1⟩
  have HB1 := hide hb1
  obtain ⟨z, hz⟩ : ∃ z, scode fs P G T f = z := ⟨_, rfl⟩
  rw [hz]
  have HZ := hide hz
  clear hz hb1 HCS
  by_cases hz0 : z = 0
  rotate_left
  · have e5 : errV z = .iface 59 (.int .i64 z) := by unfold errV; rw [if_neg hz0]
    rw [e5]
    have HNZ := hide hz0
    clear hz0 e5
    have XR := unhide HX _ (unhide HB1)
    have ⟨l0, l1, l2⟩ := XR.free
    have ⟨y0, y1, y2⟩ := XR.cells _ (Below.refl _ _)
    have FIN := XR.set (t' := zTri) (q' := 0) (rat_zero _)
    have FB := (((unhide HBW _ (unhide HB1)).setCell (p := ⟨R, 0, none⟩) (unhide HG) (.bool false)).setCell (p := ⟨R, 1, none⟩) (unhide HG) (.slice none 0 0)).setCell (p := ⟨R, 2, none⟩) (unhide HG) (.slice none 0 0)
    obtain ⟨Wf, hWf⟩ : ∃ W, ((w1.setCell ⟨R, 0, none⟩ (.bool false)).setCell ⟨R, 1, none⟩ (.slice none 0 0)).setCell ⟨R, 2, none⟩ (.slice none 0 0) = W := ⟨_, rfl⟩
    have FIN' : BoxIs Wf R zTri 0 := by rw [← hWf]; exact FIN
    have HFB : Hid (Below w.heap.size w Wf) := by show Below w.heap.size w Wf; rw [← hWf]; exact FB
    have ⟨x0, x1, x2⟩ := FIN'.cells _ (Below.refl _ _)
    clear XR FIN FB FIN'
    go_wp2
    (try simp only [Exit.inBlock, Exit.then])
    exact bodyPost_ret (v := .tuple #[.agg #[.bool false, .slice none 0 0, .slice none 0 0], .iface 59 (.int .i64 z)]) (by simp [results, Tryz.results17, go_sem, x0, x1, x2, zTri]) rfl (Or.inr ⟨fun h => unhide HNZ ((unhide HZ).symm.trans h), z, rfl, unhide HFB⟩)
  subst hz0
  have e5 : errV 0 = .nilIface := rfl
  rw [e5]
  clear e5
  obtain ⟨hc0, hT12, hsg⟩ := scode_good (unhide HZ)
  have gm := goodH_of hc0
  obtain rfl : n = np := by rw [← unhide HNP, gm.pl]; exact (unhide HN).symm
  obtain rfl : n = ng := by rw [← unhide HNG, gm.gl]; exact (unhide HN).symm
  have hn1 := gm.n1
  have hn8 := gm.n8
  rw [unhide HN] at hn1 hn8
  have HGM := hide gm
  have HSG : Hid (∀ i, i < T → sOf f i < (G[0]!).length) := fun i hi => by
    have := hsg i hi
    unfold sOf; omega
  have HAR : Hid (∀ t i, t < T → i < n → RS (Blf.al (hm fs P G) (sOf f) t i) 1200000) := fun t i ht hi => al_small (unhide HGM) (unhide HSM) (unhide HSG) hT7 t i ht (by rw [unhide HN]; exact hi)
  have HFF : Hid (Calls Tryz.prog 46 #[.agg #[.slice sf.a n sf.c, .slice sp.a n sp.c, .slice sg.a n sg.c], .slice sn.a T sn.c] w1 (FirPost w1 T n (Blf.al (hm fs P G) (sOf f)))) := by
    have := fromFirst_any (.agg #[.slice sf.a n sf.c, .slice sp.a n sp.c, .slice sg.a n sg.c]) sn fs P G (sOf f) T 1200000 11000000 w1 (unhide HIS _ (below_step (unhide HBR) (unhide HB1))) (unhide HGM) (unhide HSM) (((unhide HS).below (unhide HB1)).congr (fun i hi => by
      have := hsg i hi
      unfold sOf; omega)) (by omega) (unhide HSG) (fun t i ht hi => unhide HAR t i ht (by rw [← unhide HN]; exact hi)) (by omega) (by omega) (by rw [KKe]; omega)
    rw [unhide HN] at this
    exact this
  have ⟨d0, d1, d2⟩ := unhide HCH _ (below_step (unhide HBR) (unhide HB1))
  clear gm hc0 hsg
  go_wp2_with fail
  clear d0 d1 d2
  refine (unhide HFF).mono ?_
  rintro e w2 ⟨v2, ts, rfl, hrs, hts, -⟩
  have HB2 := hide (below_step (unhide HB1) hrs.bl)
  have HSE := hide (seen_any v2 T n 1200000 (Blf.al (hm fs P G) (sOf f)) w2 (hrs.rows (by rw [mrows_length]; exact hts)) (by omega) (by omega) (unhide HAR) (by rw [KKe]; omega))
  clear hrs hts HFF
  go_wp2_with fail
  refine (unhide HSE).mono ?_
  rintro e w3 ⟨v3, rfl, hv3, hb3⟩
  obtain ⟨t3, rfl, r3⟩ := tri_of hv3
  simp only [Tri.val]
  have HB3 := hide (below_step (unhide HB2) hb3)
  have Y := unhide HX _ (unhide HB3)
  have ⟨l0, l1, l2⟩ := Y.free
  have ⟨y0, y1, y2⟩ := Y.cells _ (Below.refl _ _)
  have FIN := Y.set r3
  have FB := (((unhide HBW _ (unhide HB3)).setCell (p := ⟨R, 0, none⟩) (unhide HG) (.bool t3.s)).setCell (p := ⟨R, 1, none⟩) (unhide HG) (.slice t3.a1 t3.n1 t3.c1)).setCell (p := ⟨R, 2, none⟩) (unhide HG) (.slice t3.a2 t3.n2 t3.c2)
  obtain ⟨Wf, hWf⟩ : ∃ W, ((w3.setCell ⟨R, 0, none⟩ (.bool t3.s)).setCell ⟨R, 1, none⟩ (.slice t3.a1 t3.n1 t3.c1)).setCell ⟨R, 2, none⟩ (.slice t3.a2 t3.n2 t3.c2) = W := ⟨_, rfl⟩
  rw [hWf] at FIN FB
  have HFIN := hide FIN
  have HFB := hide FB
  have ⟨x0, x1, x2⟩ := FIN.cells _ (Below.refl _ _)
  clear Y FIN FB hv3 hb3 r3
  go_wp2
  (try simp only [Exit.inBlock, Exit.then])
  refine bodyPost_ret (v := .tuple #[.agg #[.bool t3.s, .slice t3.a1 t3.n1 t3.c1, .slice t3.a2 t3.n2 t3.c2], .nilIface]) (by simp [results, Tryz.results17, go_sem, x0, x1, x2]) rfl (Or.inl ⟨unhide HZ, t3, rfl, ?_, unhide HFB⟩)
  have e := seenA_is (hm fs P G) (sOf f) T
  have en : (hm fs P G).n = n := unhide HN
  rw [en] at e
  rw [← e]; exact (unhide HFIN).2

end Go.Proofs.YtfnbjenneodcdaaGreatDoor
/- Hidden states: Filter. -/
namespace Go.Proofs.YtfnbjenneodcdaaGreatDoor
open Go.RowKit Go.Sort Go.Shelf

theorem sv_set (ps : List Sl) (j : Nat) (l : Sl) : sv (ps.set j l) = (sv ps).set j l.val := by unfold sv; rw [List.map_set]
/-- A row of the call's own rows is put in another's place. -/
theorem RsAt.put {w wr : World} {g n cap : Nat} {ps : List Sl} {ks ks' : List (List Rat)} (h : RsAt w wr (.slice (some ⟨g, 0, none⟩) n cap) ps ks) {j : Nat} (hj : j < ps.length) (l : Sl) (hl : LawIs wr l.val ks'[j]!) (hne : 0 < l.n → ∀ ad, l.a = some ad → some g ≠ some ad.block) (hk : ∀ i, i < ps.length → i ≠ j → ks'[i]! = ks[i]!) : RsAt w (wr.setCell ⟨g, j, none⟩ (.slice l.a l.n l.c)) (.slice (some ⟨g, 0, none⟩) n cap) (ps.set j l) ks' := by
  have hb := ownsS_block h.own g rfl
  have hset : ∀ i, (ps.set j l)[i]! = if j = i ∧ i < ps.length then l else ps[i]! := fun i => by
    rw [List.getElem!_eq_getElem?_getD, List.getElem?_set]
    by_cases e : j = i
    · subst e
      rw [if_pos rfl, if_pos hj, if_pos ⟨rfl, hj⟩]; rfl
    · rw [if_neg e, if_neg (fun x => e x.1), ← List.getElem!_eq_getElem?_getD]
  have far : ∀ (m : Sl) (q : List Rat), LawIs wr m.val q → (0 < m.n → ∀ ad, m.a = some ad → some g ≠ some ad.block) → LawIs (wr.setCell ⟨g, j, none⟩ (.slice l.a l.n l.c)) m.val q := fun m q hm hm2 => hm.far (grown_set wr g j _) (fun x e => h.no x e) hm2
  refine ⟨?_, fun x hx => ?_, fun i hi => ?_, fun i hi => ?_, h.bl.setCell (p := ⟨g, j, none⟩) hb.1 _⟩
  · refine ⟨by rw [sv_set, List.length_set, List.length_set]; exact h.own.1, ?_⟩
    rcases h.own.2 with ⟨h1, _⟩ | ⟨g', cap', cur, hv, hbg, hh, hr1, hr2, hr3, hr4⟩
    · cases h1
    · injection hv with e1 e2 e3
      injection e1 with e1
      injection e1 with e1
      subst e1
      refine Or.inr ⟨g, cap', cur.setIfInBounds j (.slice l.a l.n l.c), by rw [List.length_set, ← e2, e3], hbg, ?_, by rw [List.length_set]; exact hr1, hr2, by rw [Array.size_setIfInBounds]; exact hr3, ?_⟩
      · rw [setCell_eq_setRow wr g j cur _ (0, 0) _ hh]
        exact setRow_heap _ _ _ _ _ _ hh
      · rw [sv_set, List.length_set, Array.toList_setIfInBounds, List.take_set, hr4]; rfl
  · obtain rfl : g = x := Option.some.inj hx
    intro i k y e
    by_cases ei : i = j
    · subst ei
      have hc : (wr.setCell ⟨g, i, none⟩ (.slice l.a l.n l.c)).cell? ⟨g, i, none⟩ = some (.slice l.a l.n l.c) ∨ (wr.setCell ⟨g, i, none⟩ (.slice l.a l.n l.c)).cell? ⟨g, i, none⟩ = none := by
        rcases h.own.2 with ⟨h1, _⟩ | ⟨g', cap', cur, hv, hbg, hh, _⟩
        · cases h1
        · injection hv with e1
          injection e1 with e1
          injection e1 with e1
          subst e1
          rw [setCell_eq_setRow wr g i cur _ (0, 0) _ hh]
          have := setRow_heap wr g cur (cur.setIfInBounds i (.slice l.a l.n l.c)) _ _ hh
          simp only [World.cell?, this]
          rw [Array.getElem?_setIfInBounds]
          by_cases hz : i < cur.size
          · left; simp [hz]
          · right; simp [hz]
      rcases hc with hc | hc
      · rw [hc] at e; cases e
      · rw [hc] at e; cases e
    · refine h.no g rfl i k y ?_
      rw [← e]
      rcases h.own.2 with ⟨h1, _⟩ | ⟨g', cap', cur, hv, hbg, hh, _⟩
      · cases h1
      · injection hv with e1
        injection e1 with e1
        injection e1 with e1
        subst e1
        rw [setCell_eq_setRow wr g j cur _ (0, 0) _ hh]
        have := setRow_heap wr g cur (cur.setIfInBounds j (.slice l.a l.n l.c)) _ _ hh
        simp only [World.cell?, this, hh]
        rw [Array.getElem?_setIfInBounds, if_neg (Ne.symm ei)]
  · rw [List.length_set] at hi
    rw [hset i]
    by_cases e : j = i
    · rw [if_pos ⟨e, hi⟩, ← e]; exact far l _ hl hne
    · rw [if_neg (fun x => e x.1), hk i hi (Ne.symm e)]
      exact far _ _ (h.rat i hi) (h.ne i hi)
  · rw [List.length_set] at hi
    rw [hset i]
    show _ → ∀ ad : Addr, _ → some g ≠ some ad.block
    by_cases e : j = i
    · rw [if_pos ⟨e, hi⟩]; exact hne
    · rw [if_neg (fun x => e x.1)]; exact h.ne i hi

end Go.Proofs.YtfnbjenneodcdaaGreatDoor
/- Hidden states: Filter. -/
namespace Go.Proofs.YtfnbjenneodcdaaGreatDoor
open Go.RowKit Go.Sort Go.Shelf

theorem RsAt.form {w wr : World} {v : Value} {ps : List Sl} {ks : List (List Rat)} (h : RsAt w wr v ps ks) : ∃ a cap, v = .slice a ps.length cap ∧ ps.length ≤ cap ∧ cap ≤ 9223372036854775807 := by
  rcases h.own.2 with ⟨rfl, e⟩ | ⟨g, cap, cur, rfl, hb, hh, hc1, hc2, hs, ht⟩
  · exact ⟨none, 0, by rw [e], by omega, by decide⟩
  · exact ⟨_, cap, rfl, hc1, by unfold maxLen at hc2; exact hc2⟩
/-- The first t rows are others. -/
def mix (t : Nat) (X A : Nat → Nat → Rat) (i : Nat) : Nat → Rat := if i < t then X i else A i
theorem mix_zero (X A : Nat → Nat → Rat) : mix 0 X A = A := by
  funext i
  unfold mix
  rw [if_neg (Nat.not_lt_zero _)]
theorem mix_all {T n : Nat} (X A : Nat → Nat → Rat) : mrows T n (mix T X A) = mrows T n X := by
  unfold mrows
  refine List.map_congr_left (fun i hi => ?_)
  unfold mix
  rw [if_pos (List.mem_range.1 hi)]
/-- Chances by the signs so far; by all. -/
def flt_ (A : Nat → Nat → Rat) (n : Nat) (t i : Nat) : Rat := A t i / Bth.ps (A t) n
def FilPost (X : Nat → Nat → Rat) (w : World) (fs : List Rat) (P G : List (List Rat)) (T : Nat) (f : Nat → Int) (e : Ending) (w' : World) : Prop :=
  (scode fs P G T f = 0 ∧ Blf.seen (hm fs P G) (sOf f) T ≠ 0 ∧ ∃ (a : Option Addr) (cap : Nat), e = .returned (.tuple #[.slice a T cap, .nilIface]) ∧ RowsAre w' (.slice a T cap) (mrows T fs.length X) ∧ Below w.heap.size w w') ∨
  (scode fs P G T f = 0 ∧ Blf.seen (hm fs P G) (sOf f) T = 0 ∧ e = .returned (.tuple #[.slice none 0 0, .iface 59 (.int .i64 8)]) ∧ Below w.heap.size w w') ∨
  (scode fs P G T f ≠ 0 ∧ ∃ k, e = .returned (.tuple #[.slice none 0 0, .iface 59 (.int .i64 k)]) ∧ Below w.heap.size w w')
theorem ps_RS {f : Nat → Rat} {J : Nat} {n : Nat} (h : ∀ i, i < n → RS (f i) J) : ∀ k, k ≤ n → RS (Bth.ps f k) (k * (J + 1) + 1)
  | 0, _ => RS.mono RS.zero (by omega)
  | k + 1, hk => ((ps_RS h k (by omega)).add (h k (by omega))).mono (by rw [Nat.add_mul]; omega)
theorem ps8_RS {f : Nat → Rat} {J n : Nat} (hn : n ≤ 8) (h : ∀ i, i < n → RS (f i) J) : RS (Bth.ps f n) (8 * (J + 1) + 1) := by
  have := ps_RS h n (Nat.le_refl _)
  have h8 : n * (J + 1) ≤ 8 * (J + 1) := Nat.mul_le_mul_right _ hn
  exact this.mono (by omega)
theorem seen_RS {fs : List Rat} {P G : List (List Rat)} {s : Nat → Nat} {T : Nat} (gm : GoodH fs P G) (sm : SmHm fs P G) (hs : ∀ i, i < T → s i < (G[0]!).length) (hT : T ≤ 7) : RS (Blf.seen (hm fs P G) s T) 11000000 := by
  cases T with
  | zero => exact one_RS'.mono (by omega)
  | succ t =>
    have := ps8_RS (f := Blf.al (hm fs P G) s t) gm.n8 (fun i hi => al_small gm sm hs hT t i (by omega) hi)
    exact this.mono (by decide)
theorem sum_ne {fs : List Rat} {P G : List (List Rat)} {s : Nat → Nat} {T t : Nat} (gm : GoodH fs P G) (hs : ∀ i, i < T → s i < (G[0]!).length) (ht : t < T) (hz : Blf.seen (hm fs P G) s T ≠ 0) : Bth.ps (Blf.al (hm fs P G) s t) fs.length ≠ 0 := by
  obtain ⟨d, rfl⟩ : ∃ d, T = t + d + 1 := ⟨T - t - 1, by omega⟩
  exact Blf.al_ne gm.ok d (fun u hu => hs u (by omega)) hz

set_option maxHeartbeats 16000000 in
set_option maxRecDepth 100000 in
set_option linter.unusedSimpArgs false in
theorem filter_any (v : Value) (sn : Sl) (fs : List Rat) (P G : List (List Rat)) (T : Nat) (f : Nat → Int) (w : World) (h : HmIs w v fs P G) (sm : SmHm fs P G) (hs : NRow w (.slice sn.a T sn.c) T f) (hT7 : T ≤ 7) :
    Calls Tryz.prog 15 #[v, .slice sn.a T sn.c] w (FilPost (flt_ (Blf.al (hm fs P G) (sOf f)) fs.length) w fs P G T f) := by
  have KKe : KK = 1099511627776 := rfl
  have HSM := hide sm
  have hsn : T ≤ sn.c ∧ sn.c ≤ 9223372036854775807 := by
    obtain ⟨a, c, e, h1, h2, _⟩ := hs
    have e1 : sn.c = c := by injection e
    rw [e1]; exact ⟨h1, h2⟩
  obtain ⟨hsn1, hsn2⟩ := hsn
  obtain ⟨sf, sp, sg, rfl, hF, hP, hG⟩ := h
  have hfn := law_len hF
  have hpn := rows_len hP
  have hgn := rows_len hG
  obtain ⟨n, hn⟩ : ∃ n, fs.length = n := ⟨_, rfl⟩
  have HN := hide hn
  obtain ⟨np, hnp⟩ : ∃ n, P.length = n := ⟨_, rfl⟩
  have HNP := hide hnp
  obtain ⟨ng, hng⟩ : ∃ n, G.length = n := ⟨_, rfl⟩
  have HNG := hide hng
  rw [hn] at hfn
  rw [hnp] at hpn
  rw [hng] at hgn
  clear hnp hng
  have X0 := HBox.new hF hP hG
  have b0 := alloc_below w (.cells #[.slice sf.a sf.n sf.c, .slice sp.a sp.n sp.c, .slice sg.a sg.n sg.c] 53)
  obtain ⟨W0, hW0⟩ : ∃ W, w.alloc (.cells #[.slice sf.a sf.n sf.c, .slice sp.a sp.n sp.c, .slice sg.a sg.n sg.c] 53) = W := ⟨_, rfl⟩
  obtain ⟨bx, hbx⟩ : ∃ b, w.heap.size = b := ⟨_, rfl⟩
  rw [hW0] at X0 b0
  rw [hbx] at X0
  have HX0 := hide X0
  have HB0 := hide b0
  have HCH : Hid (∀ W, Below W0.heap.size W0 W → (fun w' : World => w'.cell? ⟨bx, 0, none⟩ = some (.slice sf.a n sf.c) ∧ w'.cell? ⟨bx, 1, none⟩ = some (.slice sp.a np sp.c) ∧ w'.cell? ⟨bx, 2, none⟩ = some (.slice sg.a ng sg.c)) W) := fun W hW => by
    have h1 := (unhide HX0).cells W hW
    rw [hfn, hpn, hgn] at h1
    exact h1
  have HIS : Hid (∀ W, Below W0.heap.size W0 W → HmIs W (.agg #[.slice sf.a n sf.c, .slice sp.a np sp.c, .slice sg.a ng sg.c]) fs P G) := fun W hW => by
    have h1 := (unhide HX0).hm.below hW
    unfold hmval at h1
    rw [hfn, hpn, hgn] at h1
    exact h1
  have ⟨c0, c1, c2⟩ := unhide HCH _ (Below.refl _ _)
  have HFN := hide hfn
  have HPN := hide hpn
  have HGN := hide hgn
  unfold hmval
  rw [hfn, hpn, hgn] at hW0 ⊢
  clear hF hP hG X0 b0 hn hfn hpn hgn
  have HS := hide (hs.below (unhide HB0))
  have HCS := hide (checkSigns_any _ sn fs P G T f W0 (unhide HIS _ (Below.refl _ _)) (unhide HSM) (unhide HS) (by omega))
  clear hs sm
  go_enter Tryz.func15, Tryz.ntmps15
  go_wp2_with fail
  clear hW0 hbx c0 c1 c2
  refine (unhide HCS).mono ?_
  rintro e w1 ⟨rfl, hb1⟩
  have HB1 := hide hb1
  obtain ⟨z, hz⟩ : ∃ z, scode fs P G T f = z := ⟨_, rfl⟩
  rw [hz]
  have HZ := hide hz
  clear hz hb1 HCS
  by_cases hz0 : z = 0
  rotate_left
  · have e5 : errV z = .iface 59 (.int .i64 z) := by unfold errV; rw [if_neg hz0]
    rw [e5]
    have HNZ := hide hz0
    clear hz0 e5
    go_wp2
    go_ret2
    exact Or.inr (Or.inr ⟨fun h => unhide HNZ ((unhide HZ).symm.trans h), z, rfl, below_step (unhide HB0) (unhide HB1)⟩)
  subst hz0
  have e5 : errV 0 = .nilIface := rfl
  rw [e5]
  clear e5
  obtain ⟨hc0, hT12, hsg⟩ := scode_good (unhide HZ)
  have gm := goodH_of hc0
  obtain rfl : n = np := by rw [← unhide HNP, gm.pl]; exact (unhide HN).symm
  obtain rfl : n = ng := by rw [← unhide HNG, gm.gl]; exact (unhide HN).symm
  have hn1 := gm.n1
  have hn8 := gm.n8
  rw [unhide HN] at hn1 hn8
  have HGM := hide gm
  have HSG : Hid (∀ i, i < T → sOf f i < (G[0]!).length) := fun i hi => by
    have := hsg i hi
    unfold sOf; omega
  have HAR : Hid (∀ t i, t < T → i < n → RS (Blf.al (hm fs P G) (sOf f) t i) 1200000) := fun t i ht hi => al_small (unhide HGM) (unhide HSM) (unhide HSG) hT7 t i ht (by rw [unhide HN]; exact hi)
  have HFF : Hid (Calls Tryz.prog 46 #[.agg #[.slice sf.a n sf.c, .slice sp.a n sp.c, .slice sg.a n sg.c], .slice sn.a T sn.c] w1 (FirPost w1 T n (Blf.al (hm fs P G) (sOf f)))) := by
    have := fromFirst_any (.agg #[.slice sf.a n sf.c, .slice sp.a n sp.c, .slice sg.a n sg.c]) sn fs P G (sOf f) T 1200000 11000000 w1 (unhide HIS _ (unhide HB1)) (unhide HGM) (unhide HSM) (((unhide HS).below (unhide HB1)).congr (fun i hi => by
      have := hsg i hi
      unfold sOf; omega)) (by omega) (unhide HSG) (fun t i ht hi => unhide HAR t i ht (by rw [← unhide HN]; exact hi)) (by omega) (by omega) (by rw [KKe]; omega)
    rw [unhide HN] at this
    exact this
  have HSS : Hid (NRow w1 (.slice sn.a T sn.c) T (fun i => ((sOf f i : Nat) : Int))) := ((unhide HS).below (unhide HB1)).congr (fun i hi => by
    have := hsg i hi
    unfold sOf; omega)
  have ⟨d0, d1, d2⟩ := unhide HCH _ (unhide HB1)
  clear gm hc0 hsg
  obtain ⟨A, hA_⟩ : ∃ A, Blf.al (hm fs P G) (sOf f) = A := ⟨_, rfl⟩
  rw [hA_] at HFF HAR
  have HA := hide hA_
  obtain ⟨q, hq⟩ : ∃ q, Blf.seen (hm fs P G) (sOf f) T = q := ⟨_, rfl⟩
  have HQ := hide hq
  have HQA : Hid (seenA n A T = q) := by
    show _ = q
    have e := seenA_is (hm fs P G) (sOf f) T
    have en : (hm fs P G).n = n := unhide HN
    rw [en, hA_] at e
    rw [e]; exact hq
  clear hA_ hq
  go_wp2_with fail
  clear d0 d1 d2
  refine (unhide HFF).mono ?_
  rintro e w2 ⟨v2, ts, rfl, hrs, hts, hhi⟩
  obtain ⟨a2, cap2, rfl, hcp1, hcp2⟩ := hrs.form
  rw [hts] at hrs hcp1 ⊢
  have HRS := hide hrs
  have HTS := hide hts
  have HB2 := hide (below_step (unhide HB1) hrs.bl)
  have HSE := hide (seen_any _ T n 1200000 A w2 (hrs.rows (by rw [mrows_length]; exact hts)) (by omega) (by omega) (unhide HAR) (by rw [KKe]; omega))
  rw [unhide HQA] at HSE
  clear hrs hts HFF hhi
  go_wp2_with fail
  refine (unhide HSE).mono ?_
  rintro e w3 ⟨v3, rfl, hv3, hb3⟩
  have HB3 := hide (below_step (unhide HB2) hb3)
  have HR3 := hide ((unhide HRS).keep hb3)
  have HSI := hide (sign_any v3 q w3 hv3)
  clear HRS hv3 hb3 HSE
  by_cases hq0 : q = 0
  · have e1 : (q.num.sign == 0) = true := by rw [hq0]; rfl
    have HQ0 := hide hq0
    obtain ⟨sg_, hsg_⟩ : ∃ x, q.num.sign = x := ⟨_, rfl⟩
    rw [hsg_] at HSI e1
    clear hq0 hsg_
    go_wp2_with fail
    refine (unhide HSI).mono ?_
    rintro e wz ⟨rfl, hbz⟩
    have HBZ := hide (below_step (below_step (unhide HB0) (unhide HB3)) hbz)
    clear hbz
    go_wp2
    go_ret2
    exact Or.inr (Or.inl ⟨unhide HZ, by rw [unhide HQ]; exact unhide HQ0, rfl, unhide HBZ⟩)
  have e1 : (q.num.sign == 0) = false := by
    rw [beq_eq_false_iff_ne]
    intro e
    exact hq0 (Rat.num_eq_zero.1 (Int.sign_eq_zero_iff_zero.1 e))
  have HNE : Hid (∀ t, t < T → Bth.ps (A t) n ≠ 0) := fun t ht => by
    have := sum_ne (unhide HGM) (unhide HSG) ht (by rw [unhide HQ]; exact hq0)
    rw [unhide HA, unhide HN] at this
    exact this
  have HQ0 := hide hq0
  have HPS : Hid (∀ t, t < T → RS (Bth.ps (A t) n) 11000000) := fun t ht => by
    have := ps8_RS (f := A t) hn8 (fun i hi => unhide HAR t i ht hi)
    exact this.mono (by decide)
  obtain ⟨sg_, hsg_⟩ : ∃ x, q.num.sign = x := ⟨_, rfl⟩
  rw [hsg_] at HSI e1
  clear hq0 hsg_
  go_wp2_with fail
  refine (unhide HSI).mono ?_
  rintro e w4 ⟨rfl, hb4⟩
  have HR4 : Hid (RsAt w1 w4 (.slice a2 T cap2) ts (mrows T n (mix 0 (flt_ A n) A))) := by
    show RsAt w1 w4 (.slice a2 T cap2) ts _
    rw [mix_zero]; exact (unhide HR3).keep hb4
  clear hb4 HR3 HSI
  go_wp2_with fail
  clear e1
  go_loopw [26] (fun vt wr => ∃ (t : Nat) (ts : List Sl), vt = .int .i64 (t : Int) ∧ t ≤ T ∧ ts.length = T ∧ RsAt w1 wr (.slice a2 T cap2) ts (mrows T n (mix t (flt_ A n) A))) (fun vt _ => T - (intOf vt).toNat)
  case atStart => exact ⟨0, ts, rfl, Nat.zero_le _, unhide HTS, unhide HR4⟩
  case round =>
    obtain ⟨t, ts, rfl, ht, hts, S⟩ := hrel
    clear HR4
    by_cases hlt : t < T
    · have f1 : (t : Int) < (T : Int) := by omega
      have f0 : (0 : Int) ≤ (t : Int) := by omega
      obtain ⟨g, cap, hvo, hgl, hgw, _, _, hgc, hlu⟩ := S.at (j := t) (by omega)
      injection hvo with ev1 ev2 ev3
      clear ev2 ev3
      subst ev1
      rw [mrows_get hlt] at hlu
      have hmx : mix t (flt_ A n) A t = A t := by unfold mix; rw [if_neg (Nat.lt_irrefl _)]
      rw [hmx] at hlu
      obtain ⟨lp, hlp⟩ : ∃ l, ts[t]! = l := ⟨_, rfl⟩
      rw [hlp] at hgc hlu
      have hln := law_len hlu
      rw [row_length] at hln
      rw [hln] at hgc
      have HSU : Hid (Calls Tryz.prog 49 #[.slice lp.a n lp.c] wr fun e w' => ∃ v, e = .returned v ∧ RatIs w' v (Bth.ps (A t) n) ∧ Below wr.heap.size wr w') := by
        have := sumR_any lp.val (row (A t) n) 1200000 wr hlu (fun j hj => by
          rw [row_length] at hj
          rw [row_get hj]; exact unhide HAR t j hlt hj) (by rw [row_length, KKe]; omega)
        simp only [Sl.val] at this
        rw [hln, row_length, qsum_row _ _ n (Nat.le_refl _)] at this
        exact this
      have HDV : Hid (∀ (W : World) (v : Value), Below wr.heap.size wr W → RatIs W v (Bth.ps (A t) n) → Calls Tryz.prog 48 #[.slice lp.a n lp.c, v] W (RowPost W (row (flt_ A n t) n))) := fun W v hW hv => by
        have := divided_any lp v (row (A t) n) (Bth.ps (A t) n) n 11000000 W (hlu.below hW) (row_length _ _) hv hn1 (by omega) (fun i hi => by
          rw [row_get hi]; exact (unhide HAR t i hlt hi).mono (by omega)) (unhide HPS t hlt) (unhide HNE t hlt) (by rw [KKe]; omega)
        rw [show row (flt_ A n t) n = row (fun i => (row (A t) n)[i]! / Bth.ps (A t) n) n from row_congr (fun i hi => by
          show A t i / _ = (row (A t) n)[i]! / _
          rw [row_get hi])]
        exact this
      have HSX := hide S
      have HTS5 := hide hts
      have HGL := hide hgl
      clear S hts hlu hln hlp hmx hgw hgl
      go_wp2_with fail
      clear hgc
      refine (unhide HSU).mono ?_
      rintro e w5 ⟨v5, rfl, hv5, hb5⟩
      have HD5 := hide (unhide HDV w5 v5 hb5 hv5)
      obtain ⟨t5, rfl, r5⟩ := tri_of hv5
      simp only [Tri.val] at HD5 ⊢
      clear hv5 r5 HSU HDV
      go_wp2_with fail
      refine (unhide HD5).mono ?_
      rintro e w6 ⟨gd, nd, rfl, hnd, hged, hld, hb6⟩
      rw [row_length] at hnd
      obtain rfl := hnd.symm
      have S6 := ((unhide HSX).keep hb5).keep hb6
      have hl6 : LawIs w6 (Sl.val (some ⟨gd, 0, none⟩, n, n)) (mrows T n (mix (t + 1) (flt_ A n) A))[t]! := by
        rw [mrows_get hlt]
        have : mix (t + 1) (flt_ A n) A t = flt_ A n t := by unfold mix; rw [if_pos (Nat.lt_succ_self _)]
        rw [this]; exact hld
      have FZ := S6.put (ks' := mrows T n (mix (t + 1) (flt_ A n) A)) (j := t) (by have := unhide HTS5; omega) (some ⟨gd, 0, none⟩, n, n) hl6 (fun _ ad e he => by
        have e : some (⟨gd, 0, none⟩ : Addr) = some ad := e
        injection e with e
        injection he with he
        rw [← e] at he
        simp only at he
        have h1 := unhide HGL
        have h2 := hb5.size
        omega) (fun i hi hne => by
        have hi : i < T := by have := unhide HTS5; omega
        rw [mrows_get hi, mrows_get hi]
        have : mix (t + 1) (flt_ A n) A i = mix t (flt_ A n) A i := by
          unfold mix
          by_cases e : i < t
          · rw [if_pos e, if_pos (by omega)]
          · rw [if_neg e, if_neg (by omega)]
        rw [this])
      obtain ⟨_, _, _, _, _, _, _, yc, _⟩ := S6.at (j := t) (by have := unhide HTS5; omega)
      have hYC : ∃ x, w6.cell? ⟨g, t, none⟩ = some x ∧ w6.frozen? ⟨g, t, none⟩ = false := by
        rcases S6.own.2 with ⟨h1, _⟩ | ⟨g', cap', cur, hv, hbg, hh, hr1, _⟩
        · cases h1
        · injection hv with e1
          injection e1 with e1
          injection e1 with e1
          subst e1
          obtain ⟨g2, _, e2, _, _, _, _, c2, _⟩ := S6.at (j := t) (by have := unhide HTS5; omega)
          injection e2 with e2
          injection e2 with e2
          injection e2 with e2
          subst e2
          exact ⟨_, c2, by simp [World.frozen?, hh]⟩
      obtain ⟨xx, y0, y1⟩ := hYC
      obtain ⟨W7, hW7⟩ : ∃ W, w6.setCell ⟨g, t, none⟩ (.slice (some ⟨gd, 0, none⟩) n n) = W := ⟨_, rfl⟩
      have HFZ : Hid (RsAt w1 W7 (.slice (some ⟨g, 0, none⟩) T cap2) (ts.set t (some ⟨gd, 0, none⟩, n, n)) (mrows T n (mix (t + 1) (flt_ A n) A))) := by rw [← hW7]; exact FZ
      clear S6 hl6 FZ yc hld hb6 hb5 hged HSX HD5
      go_wp2_with fail
      exact ⟨⟨t + 1, _, by go_num, hlt, by rw [List.length_set] <;> exact unhide HTS5, unhide HFZ⟩, by simp [intOf]; omega⟩
    · obtain rfl : t = T := by omega
      have f1 : ¬ (t : Int) < (t : Int) := by omega
      have hrw := S.rows (by rw [mrows_length]; exact hts)
      rw [mix_all] at hrw
      have HRW := hide hrw
      have HB := hide (below_step (below_step (unhide HB0) (unhide HB1)) S.bl)
      clear S hrw
      go_wp2
      go_ret2
      refine Or.inl ⟨unhide HZ, by rw [unhide HQ]; exact unhide HQ0, a2, cap2, rfl, ?_, unhide HB⟩
      rw [unhide HN, unhide HA]
      exact unhide HRW

end Go.Proofs.YtfnbjenneodcdaaGreatDoor
