/- Hidden states: Likely. -/
import Derived.Test.YtfnbjenneodcdaaGreatDoorBL6
import Derived.Test.YtfnbjenneodcdaaGreatDoorBL22
import Derived.Test.YtfnbjenneodcdaaGreatDoorBL23
namespace Go.Proofs.YtfnbjenneodcdaaGreatDoor
open Go.RowKit Go.Sort Go.Shelf

def asz : Nat → Nat
  | 0 => 2
  | t + 1 => 8 * (asz t + 2) + 2
theorem asz_le {t : Nat} (h : t ≤ 6) : asz t ≤ 1200000 := by
  match t, h with
  | 0, _ | 1, _ | 2, _ | 3, _ | 4, _ | 5, _ | 6, _ => decide
theorem al_RS {fs : List Rat} {P G : List (List Rat)} {s : Nat → Nat} {T : Nat} (gm : GoodH fs P G) (sm : SmHm fs P G) (hs : ∀ i, i < T → s i < (G[0]!).length) : ∀ (t i : Nat), t < T → i < fs.length → RS (Blf.al (hm fs P G) s t i) (asz t)
  | 0, i, ht, hi => ((sm.rf i hi).mul (sm.rg i (s 0) (by rw [gm.gl]; exact hi) (by rw [gm.gx i hi]; exact hs 0 ht))).mono (by decide)
  | t + 1, i, ht, hi => by
    have a := fol_RS gm sm (x := Blf.al (hm fs P G) s t) (fun k hk => al_RS gm sm hs t k (by omega) hk) hi
    have b : RS ((hm fs P G).g i (s (t + 1))) 1 := sm.rg i _ (by rw [gm.gl]; exact hi) (by rw [gm.gx i hi]; exact hs _ ht)
    exact (a.mul b).mono (by show 8 * (asz t + 2) + 1 + 1 ≤ 8 * (asz t + 2) + 2; omega)
theorem al_small {fs : List Rat} {P G : List (List Rat)} {s : Nat → Nat} {T : Nat} (gm : GoodH fs P G) (sm : SmHm fs P G) (hs : ∀ i, i < T → s i < (G[0]!).length) (hT : T ≤ 7) (t i : Nat) (ht : t < T) (hi : i < fs.length) : RS (Blf.al (hm fs P G) s t i) 1200000 := (al_RS gm sm hs t i ht hi).mono (asz_le (by omega))
theorem seenA_is (m : Blf.Hm) (s : Nat → Nat) (T : Nat) : seenA m.n (Blf.al m s) T = Blf.seen m s T := by
  cases T with
  | zero => rfl
  | succ t => rfl
/-- What Likely says. -/
def LikPost (w : World) (fs : List Rat) (P G : List (List Rat)) (T : Nat) (f : Nat → Int) (e : Ending) (w' : World) : Prop :=
  (scode fs P G T f = 0 ∧ ∃ t : Tri, e = .returned (.tuple #[t.val, .nilIface]) ∧ RatIs w' t.val (Blf.seen (hm fs P G) (sOf f) T) ∧ Below w.heap.size w w') ∨
  (scode fs P G T f ≠ 0 ∧ ∃ k, e = .returned (.tuple #[.agg #[.bool false, .slice none 0 0, .slice none 0 0], .iface 59 (.int .i64 k)]) ∧ Below w.heap.size w w')

set_option maxHeartbeats 16000000 in
set_option maxRecDepth 100000 in
set_option linter.unusedSimpArgs false in
theorem likely16_any (v : Value) (sn : Sl) (fs : List Rat) (P G : List (List Rat)) (T : Nat) (f : Nat → Int) (w : World) (h : HmIs w v fs P G) (sm : SmHm fs P G) (hs : NRow w (.slice sn.a T sn.c) T f) (hT7 : T ≤ 7) :
    Calls Tryz.prog 17 #[v, .slice sn.a T sn.c] w (LikPost w fs P G T f) := by
  have KKe : KK = 1099511627776 := rfl
  have HSM := hide sm
  have hsn : T ≤ sn.c ∧ sn.c ≤ 9223372036854775807 := by
    obtain ⟨a, c, e, h1, h2, _⟩ := hs
    have e1 : sn.c = c := by injection e
    rw [e1]; exact ⟨h1, h2⟩
  obtain ⟨hsn1, hsn2⟩ := hsn
  obtain ⟨sf, sp, sg, rfl, hF, hP, hG⟩ := h
  have hfn := law_len hF
  have hpn := rows_len hP
  have hgn := rows_len hG
  obtain ⟨n, hn⟩ : ∃ n, fs.length = n := ⟨_, rfl⟩
  have HN := hide hn
  obtain ⟨np, hnp⟩ : ∃ n, P.length = n := ⟨_, rfl⟩
  have HNP := hide hnp
  obtain ⟨ng, hng⟩ : ∃ n, G.length = n := ⟨_, rfl⟩
  have HNG := hide hng
  rw [hn] at hfn
  rw [hnp] at hpn
  rw [hng] at hgn
  clear hnp hng
  have X0 := HBox.new hF hP hG
  have b0 := alloc_below w (.cells #[.slice sf.a sf.n sf.c, .slice sp.a sp.n sp.c, .slice sg.a sg.n sg.c] 53)
  obtain ⟨W0, hW0⟩ : ∃ W, w.alloc (.cells #[.slice sf.a sf.n sf.c, .slice sp.a sp.n sp.c, .slice sg.a sg.n sg.c] 53) = W := ⟨_, rfl⟩
  obtain ⟨bx, hbx⟩ : ∃ b, w.heap.size = b := ⟨_, rfl⟩
  rw [hW0] at X0 b0
  rw [hbx] at X0
  have HX0 := hide X0
  have HB0 := hide b0
  have HCH : Hid (∀ W, Below W0.heap.size W0 W → (fun w' : World => w'.cell? ⟨bx, 0, none⟩ = some (.slice sf.a n sf.c) ∧ w'.cell? ⟨bx, 1, none⟩ = some (.slice sp.a np sp.c) ∧ w'.cell? ⟨bx, 2, none⟩ = some (.slice sg.a ng sg.c)) W) := fun W hW => by
    have h1 := (unhide HX0).cells W hW
    rw [hfn, hpn, hgn] at h1
    exact h1
  have HIS : Hid (∀ W, Below W0.heap.size W0 W → HmIs W (.agg #[.slice sf.a n sf.c, .slice sp.a np sp.c, .slice sg.a ng sg.c]) fs P G) := fun W hW => by
    have h1 := (unhide HX0).hm.below hW
    unfold hmval at h1
    rw [hfn, hpn, hgn] at h1
    exact h1
  have ⟨c0, c1, c2⟩ := unhide HCH _ (Below.refl _ _)
  have HFN := hide hfn
  have HPN := hide hpn
  have HGN := hide hgn
  unfold hmval
  rw [hfn, hpn, hgn] at hW0 ⊢
  clear hF hP hG X0 b0 hn hfn hpn hgn
  have bR := alloc_below W0 (.cells #[.bool false, .slice none 0 0, .slice none 0 0] 26)
  have XR0 := BoxIs.new (w := W0) (t := zTri) (q := 0) (rat_zero _)
  obtain ⟨W1, hW1⟩ : ∃ W, W0.alloc (.cells #[.bool false, .slice none 0 0, .slice none 0 0] 26) = W := ⟨_, rfl⟩
  obtain ⟨R, hR⟩ : ∃ R, W0.heap.size = R := ⟨_, rfl⟩
  have XR1 : BoxIs W1 R zTri 0 := by rw [← hW1, ← hR]; exact XR0
  rw [hW1] at bR
  have HX : Hid (∀ W, Below W1.heap.size W1 W → BoxIs W R zTri 0) := fun W hW => XR1.keep hW
  have HBW : Hid (∀ W, Below W1.heap.size W1 W → Below w.heap.size w W) := fun W hW => below_step (below_step (unhide HB0) bR) hW
  have HG : Hid (w.heap.size ≤ R) := by show _ ≤ R; rw [← hR]; exact (unhide HB0).size
  have HBR := hide bR
  have HS := hide ((hs.below (unhide HB0)).below bR)
  have HCS := hide (checkSigns_any _ sn fs P G T f W1 (unhide HIS _ bR) (unhide HSM) (unhide HS) (by omega))
  have ⟨d0, d1, d2⟩ := unhide HCH _ bR
  clear hs sm XR0 XR1 bR
  go_enter Tryz.func17, Tryz.ntmps17
  go_wp2_with fail
  clear hW0 hbx c0 c1 c2 d0 d1 d2 hW1 hR
  refine (unhide HCS).mono ?_
  rintro e w1 ⟨rfl, hb1⟩
  have HB1 := hide hb1
  obtain ⟨z, hz⟩ : ∃ z, scode fs P G T f = z := ⟨_, rfl⟩
  rw [hz]
  have HZ := hide hz
  clear hz hb1 HCS
  by_cases hz0 : z = 0
  rotate_left
  · have e5 : errV z = .iface 59 (.int .i64 z) := by unfold errV; rw [if_neg hz0]
    rw [e5]
    have HNZ := hide hz0
    clear hz0 e5
    have XR := unhide HX _ (unhide HB1)
    have ⟨l0, l1, l2⟩ := XR.free
    have ⟨y0, y1, y2⟩ := XR.cells _ (Below.refl _ _)
    have FIN := XR.set (t' := zTri) (q' := 0) (rat_zero _)
    have FB := (((unhide HBW _ (unhide HB1)).setCell (p := ⟨R, 0, none⟩) (unhide HG) (.bool false)).setCell (p := ⟨R, 1, none⟩) (unhide HG) (.slice none 0 0)).setCell (p := ⟨R, 2, none⟩) (unhide HG) (.slice none 0 0)
    obtain ⟨Wf, hWf⟩ : ∃ W, ((w1.setCell ⟨R, 0, none⟩ (.bool false)).setCell ⟨R, 1, none⟩ (.slice none 0 0)).setCell ⟨R, 2, none⟩ (.slice none 0 0) = W := ⟨_, rfl⟩
    have FIN' : BoxIs Wf R zTri 0 := by rw [← hWf]; exact FIN
    have HFB : Hid (Below w.heap.size w Wf) := by show Below w.heap.size w Wf; rw [← hWf]; exact FB
    have ⟨x0, x1, x2⟩ := FIN'.cells _ (Below.refl _ _)
    clear XR FIN FB FIN'
    go_wp2
    (try simp only [Exit.inBlock, Exit.then])
    exact bodyPost_ret (v := .tuple #[.agg #[.bool false, .slice none 0 0, .slice none 0 0], .iface 59 (.int .i64 z)]) (by simp [results, Tryz.results17, go_sem, x0, x1, x2, zTri]) rfl (Or.inr ⟨fun h => unhide HNZ ((unhide HZ).symm.trans h), z, rfl, unhide HFB⟩)
  subst hz0
  have e5 : errV 0 = .nilIface := rfl
  rw [e5]
  clear e5
  obtain ⟨hc0, hT12, hsg⟩ := scode_good (unhide HZ)
  have gm := goodH_of hc0
  obtain rfl : n = np := by rw [← unhide HNP, gm.pl]; exact (unhide HN).symm
  obtain rfl : n = ng := by rw [← unhide HNG, gm.gl]; exact (unhide HN).symm
  have hn1 := gm.n1
  have hn8 := gm.n8
  rw [unhide HN] at hn1 hn8
  have HGM := hide gm
  have HSG : Hid (∀ i, i < T → sOf f i < (G[0]!).length) := fun i hi => by
    have := hsg i hi
    unfold sOf; omega
  have HAR : Hid (∀ t i, t < T → i < n → RS (Blf.al (hm fs P G) (sOf f) t i) 1200000) := fun t i ht hi => al_small (unhide HGM) (unhide HSM) (unhide HSG) hT7 t i ht (by rw [unhide HN]; exact hi)
  have HFF : Hid (Calls Tryz.prog 46 #[.agg #[.slice sf.a n sf.c, .slice sp.a n sp.c, .slice sg.a n sg.c], .slice sn.a T sn.c] w1 (FirPost w1 T n (Blf.al (hm fs P G) (sOf f)))) := by
    have := fromFirst_any (.agg #[.slice sf.a n sf.c, .slice sp.a n sp.c, .slice sg.a n sg.c]) sn fs P G (sOf f) T 1200000 11000000 w1 (unhide HIS _ (below_step (unhide HBR) (unhide HB1))) (unhide HGM) (unhide HSM) (((unhide HS).below (unhide HB1)).congr (fun i hi => by
      have := hsg i hi
      unfold sOf; omega)) (by omega) (unhide HSG) (fun t i ht hi => unhide HAR t i ht (by rw [← unhide HN]; exact hi)) (by omega) (by omega) (by rw [KKe]; omega)
    rw [unhide HN] at this
    exact this
  have ⟨d0, d1, d2⟩ := unhide HCH _ (below_step (unhide HBR) (unhide HB1))
  clear gm hc0 hsg
  go_wp2_with fail
  clear d0 d1 d2
  refine (unhide HFF).mono ?_
  rintro e w2 ⟨v2, ts, rfl, hrs, hts, -⟩
  have HB2 := hide (below_step (unhide HB1) hrs.bl)
  have HSE := hide (seen_any v2 T n 1200000 (Blf.al (hm fs P G) (sOf f)) w2 (hrs.rows (by rw [mrows_length]; exact hts)) (by omega) (by omega) (unhide HAR) (by rw [KKe]; omega))
  clear hrs hts HFF
  go_wp2_with fail
  refine (unhide HSE).mono ?_
  rintro e w3 ⟨v3, rfl, hv3, hb3⟩
  obtain ⟨t3, rfl, r3⟩ := tri_of hv3
  simp only [Tri.val]
  have HB3 := hide (below_step (unhide HB2) hb3)
  have Y := unhide HX _ (unhide HB3)
  have ⟨l0, l1, l2⟩ := Y.free
  have ⟨y0, y1, y2⟩ := Y.cells _ (Below.refl _ _)
  have FIN := Y.set r3
  have FB := (((unhide HBW _ (unhide HB3)).setCell (p := ⟨R, 0, none⟩) (unhide HG) (.bool t3.s)).setCell (p := ⟨R, 1, none⟩) (unhide HG) (.slice t3.a1 t3.n1 t3.c1)).setCell (p := ⟨R, 2, none⟩) (unhide HG) (.slice t3.a2 t3.n2 t3.c2)
  obtain ⟨Wf, hWf⟩ : ∃ W, ((w3.setCell ⟨R, 0, none⟩ (.bool t3.s)).setCell ⟨R, 1, none⟩ (.slice t3.a1 t3.n1 t3.c1)).setCell ⟨R, 2, none⟩ (.slice t3.a2 t3.n2 t3.c2) = W := ⟨_, rfl⟩
  rw [hWf] at FIN FB
  have HFIN := hide FIN
  have HFB := hide FB
  have ⟨x0, x1, x2⟩ := FIN.cells _ (Below.refl _ _)
  clear Y FIN FB hv3 hb3 r3
  go_wp2
  (try simp only [Exit.inBlock, Exit.then])
  refine bodyPost_ret (v := .tuple #[.agg #[.bool t3.s, .slice t3.a1 t3.n1 t3.c1, .slice t3.a2 t3.n2 t3.c2], .nilIface]) (by simp [results, Tryz.results17, go_sem, x0, x1, x2]) rfl (Or.inl ⟨unhide HZ, t3, rfl, ?_, unhide HFB⟩)
  have e := seenA_is (hm fs P G) (sOf f) T
  have en : (hm fs P G).n = n := unhide HN
  rw [en] at e
  rw [← e]; exact (unhide HFIN).2

end Go.Proofs.YtfnbjenneodcdaaGreatDoor
