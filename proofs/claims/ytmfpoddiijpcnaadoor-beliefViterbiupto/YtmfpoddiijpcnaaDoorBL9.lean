/- Hidden states: how likely a row is with the signs (BeliefViterbi's own function). -/
import Derived.Test.YtmfpoddiijpcnaaDoorBL8
namespace Go.Proofs.YtmfpoddiijpcnaaDoor
open Go.RowKit Go.Sort Go.Shelf

/-- pick's value. -/
def pkv (a : Int) (n : Nat) : Nat := (IntKind.u64.wrap a % (n : Int)).toNat
theorem pkv_lt (a : Int) {n : Nat} (hn : 0 < n) : pkv a n < n := by
  have hm0 : 0 ≤ IntKind.u64.wrap a % (n : Int) := Int.emod_nonneg _ (by omega)
  have hm1 : IntKind.u64.wrap a % (n : Int) < (n : Int) := Int.emod_lt_of_pos _ (by omega)
  unfold pkv; omega
set_option maxRecDepth 100000 in
theorem pick_val (a : Int) (n : Nat) (hn : 0 < n) (hn1 : n ≤ 1000) (w : World) :
    Calls Tryd.prog 11 #[.int .i64 a, .int .i64 (n : Int)] w fun e w' => e = .returned (.int .i64 ((pkv a n : Nat) : Int)) ∧ w' = w := by
  have e1 : IntKind.u64.wrap (n : Int) = (n : Int) := by rw [IntKind.wrap_u64]; omega
  obtain ⟨z, hz'⟩ : ∃ z, pkv a n = z := ⟨_, rfl⟩
  have hzl := pkv_lt a hn
  unfold pkv at hz'
  obtain ⟨x, hx⟩ : ∃ x, IntKind.u64.wrap a = x := ⟨_, rfl⟩
  rw [hx] at hz'
  have hx0 : 0 ≤ x := by rw [← hx, IntKind.wrap_u64]; omega
  have hx1 : x < 18446744073709551616 := by rw [← hx, IntKind.wrap_u64]; omega
  have hz : ((n : Int) == 0) = false := by rw [beq_eq_false_iff_ne]; omega
  have hm0 : 0 ≤ x % (n : Int) := Int.emod_nonneg _ (by omega)
  have hm1 : x % (n : Int) < (n : Int) := Int.emod_lt_of_pos _ (by omega)
  have hk : x % (n : Int) = (z : Int) := by omega
  have hpk : pkv a n = z := by unfold pkv; rw [hx]; exact hz'
  rw [hpk] at hzl ⊢
  clear hm0 hm1 hz' hpk
  go_enter Tryd.func11, Tryd.ntmps11
  go_wp2
  go_ret
  exact ⟨rfl, rfl⟩

/-- What the function reads. -/
structure VEnv (W : World) (b3 b4 b7 : Nat) (pf : Sl) (x1 x2 : Value) (sn sf sp sg : Sl) (fs : List Rat) (P G : List (List Rat)) (T n : Nat) (s : Nat → Nat) : Prop where
  h3 : W.heap[b3]? = some (.cells #[.slice pf.a n pf.c, x1, x2] 25)
  h4 : W.heap[b4]? = some (.cells #[.slice sn.a T sn.c] 26)
  h7 : HBox W b7 sf sp sg fs P G
  sg : NRow W (.slice sn.a T sn.c) T (fun i => ((s i : Nat) : Int))
theorem VEnv.keep {W W' : World} {b3 b4 b7 : Nat} {pf : Sl} {x1 x2 : Value} {sn sf sp sg : Sl} {fs : List Rat} {P G : List (List Rat)} {T n : Nat} {s : Nat → Nat} (h : VEnv W b3 b4 b7 pf x1 x2 sn sf sp sg fs P G T n s) (hb : Below W.heap.size W W') : VEnv W' b3 b4 b7 pf x1 x2 sn sf sp sg fs P G T n s := ⟨heap_kept h.h3 hb, heap_kept h.h4 hb, h.h7.keep hb, h.sg.below hb⟩

set_option maxHeartbeats 16000000 in
set_option maxRecDepth 100000 in
set_option linter.unusedSimpArgs false in
theorem likely_any (b3 b4 b7 : Nat) (pf : Sl) (x1 x2 : Value) (sn sf sp sg rn : Sl) (fs : List Rat) (P G : List (List Rat)) (T n L : Nat) (s : Nat → Nat) (f : Nat → Int) (w : World) (he : VEnv w b3 b4 b7 pf x1 x2 sn sf sp sg fs P G T n s) (gm : GoodH fs P G) (sm : SmHm fs P G) (hn : fs.length = n) (hr : NRow w (.slice rn.a L rn.c) L f) (hTL : T ≤ L) (hT : T ≤ 12) (hL : L ≤ 9223372036854775807) (hs : ∀ i, i < T → s i < (G[0]!).length) :
    Calls Tryd.prog 9 #[.slice rn.a L rn.c, .pointer (some ⟨b4, 0, none⟩), .pointer (some ⟨b3, 0, none⟩), .pointer (some ⟨b7, 0, none⟩)] w fun e w' => ∃ v, e = .returned v ∧ RatIs w' v (Blf.pr (hm fs P G) s (fun t => pkv (f t) n) T) ∧ Below w.heap.size w w' := by
  have KKe : KK = 1099511627776 := rfl
  have hn1 := gm.n1
  have hn8 := gm.n8
  rw [hn] at hn1 hn8
  have HN := hide hn
  have HSM := hide sm
  have HGM := hide gm
  have HSK := hide hs
  obtain ⟨m, hm_⟩ : ∃ m, hm fs P G = m := ⟨_, rfl⟩
  rw [hm_]
  have HM := hide hm_
  obtain ⟨r, hr_⟩ : ∃ r : Nat → Nat, (fun t => pkv (f t) n) = r := ⟨_, rfl⟩
  have HRV : Hid (∀ t, r t = pkv (f t) n) := fun t => by rw [← hr_]
  have HRL_ : Hid (∀ t, r t < n) := fun t => by rw [unhide HRV]; exact pkv_lt _ hn1
  rw [hr_]
  have HKK : Hid (60 + 60 + 1 ≤ KK) := by show _ ≤ _; rw [KKe]; omega
  have HPRS : Hid (∀ t, t ≤ T → RS (Blf.pr m s r t) 30) := fun t ht => by
    have := pr_RS (r := r) (unhide HGM) (unhide HSM) (unhide HSK) (fun i => by rw [unhide HN]; exact unhide HRL_ i) t ht
    rw [unhide HM] at this
    exact this.mono (by omega)
  have HCRS : Hid (∀ t i, i < n → RS (Blf.cmr m r t i) 1) := fun t i hi => by
    have := cmr_RS (r := r) (unhide HGM) (unhide HSM) (fun i => by rw [unhide HN]; exact unhide HRL_ i) t i (by rw [unhide HN]; exact hi)
    rw [unhide HM] at this
    exact this
  have b0 := alloc_below w (.cells #[.bool false, .slice none 0 0, .slice none 0 0] 36)
  have X0 := BoxIs.new (w := w) (t := zTri) (q := 0) (rat_zero _)
  obtain ⟨W0, hW0⟩ : ∃ W, w.alloc (.cells #[.bool false, .slice none 0 0, .slice none 0 0] 36) = W := ⟨_, rfl⟩
  obtain ⟨R, hR⟩ : ∃ R, w.heap.size = R := ⟨_, rfl⟩
  have X0' : BoxIs W0 R zTri 0 := by rw [← hW0, ← hR]; exact X0
  rw [hW0] at b0
  have HX : Hid (∀ W, Below W0.heap.size W0 W → BoxIs W R zTri 0) := fun W hW => X0'.keep hW
  have HBW : Hid (∀ W, Below W0.heap.size W0 W → Below w.heap.size w W) := fun W hW => below_step b0 hW
  have HG : Hid (w.heap.size ≤ R) := by show _ ≤ R; rw [hR]; exact Nat.le_refl _
  have HB0 := hide b0
  clear X0 X0' b0
  have HE := hide (he.keep (unhide HB0))
  have HRN := hide (hr.below (unhide HB0))
  have hfn := law_len (unhide HE).h7.2.1
  have hpn := rows_len (unhide HE).h7.2.2.1
  have hgn := rows_len (unhide HE).h7.2.2.2
  rw [hn] at hfn
  rw [gm.pl, hn] at hpn
  rw [gm.gl, hn] at hgn
  have HC7B : Hid (∀ W, Below W0.heap.size W0 W → (fun w' : World => w'.cell? ⟨b7, 0, none⟩ = some (.slice sf.a n sf.c) ∧ w'.cell? ⟨b7, 1, none⟩ = some (.slice sp.a n sp.c) ∧ w'.cell? ⟨b7, 2, none⟩ = some (.slice sg.a n sg.c)) W) := fun W hW => by
    have h1 := (unhide HE).h7.cells W hW
    rw [hfn, hpn, hgn] at h1
    exact h1
  have HC3B : Hid (∀ W, Below W0.heap.size W0 W → W.cell? ⟨b3, 0, none⟩ = some (.slice pf.a n pf.c)) := fun W hW => by
    have := heap_kept (unhide HE).h3 hW
    simp [World.cell?, this]
  have HC4B : Hid (∀ W, Below W0.heap.size W0 W → W.cell? ⟨b4, 0, none⟩ = some (.slice sn.a T sn.c)) := fun W hW => by
    have := heap_kept (unhide HE).h4 hW
    simp [World.cell?, this]
  have hrn : L ≤ rn.c ∧ rn.c ≤ 9223372036854775807 := by
    obtain ⟨a, c, e, h1, h2, _⟩ := hr
    have e1 : rn.c = c := by injection e
    rw [e1]; exact ⟨h1, h2⟩
  obtain ⟨hrn1, hrn2⟩ := hrn
  clear he hr hs hm_ hr_ sm gm hn hfn hpn hgn
  go_enter Tryd.func9, Tryd.ntmps9
  go_wp2_with fail
  clear hW0 hR
  refine (whole_any 1 (by decide) (by decide) W0).mono ?_
  rintro e w1 ⟨v1, rfl, hv1, hb1⟩
  obtain ⟨tx0, rfl, r1⟩ := tri_of hv1
  simp only [Tri.val]
  have b1 := alloc_below w1 (.cells #[.bool tx0.s, .slice tx0.a1 tx0.n1 tx0.c1, .slice tx0.a2 tx0.n2 tx0.c2] 36)
  have X1 := BoxIs.new r1
  obtain ⟨W1, hW1⟩ : ∃ W, w1.alloc (.cells #[.bool tx0.s, .slice tx0.a1 tx0.n1 tx0.c1, .slice tx0.a2 tx0.n2 tx0.c2] 36) = W := ⟨_, rfl⟩
  obtain ⟨b6, hb6⟩ : ∃ g, w1.heap.size = g := ⟨_, rfl⟩
  have HG6 : Hid (W0.heap.size ≤ b6) := by show _ ≤ b6; rw [← hb6]; exact hb1.size
  rw [hW1] at b1 X1
  rw [hb6] at X1
  have HB1 := hide (below_step hb1 b1)
  have HX1 : Hid (BoxIs W1 b6 tx0 (Blf.pr m s r 0)) := X1
  have k4 := unhide HC4B _ (unhide HB1)
  clear hv1 hb1 r1 b1 X1
  go_wp2_with fail
  clear hW1 hb6 k4
  go_loopw [7] (fun vt wr => ∃ (t : Nat) (tx : Tri), vt = .int .i64 (t : Int) ∧ t ≤ T ∧ BoxIs wr b6 tx (Blf.pr m s r t) ∧ Below W0.heap.size W0 wr) (fun vt _ => T - (intOf vt).toNat)
  case atStart => exact ⟨0, tx0, rfl, Nat.zero_le _, unhide HX1, unhide HB1⟩
  case round =>
    obtain ⟨t, tx, rfl, ht, hX, hb⟩ := hrel
    clear HX1 HB1
    have k4 := unhide HC4B _ hb
    have HXR := hide hX
    have HBR := hide hb
    clear hX hb
    by_cases hlt : t < T
    · have f1 : (t : Int) < (T : Int) := by omega
      have f0 : (0 : Int) ≤ (t : Int) := by omega
      have f2 : (t : Int) < (L : Int) := by omega
      obtain ⟨ra, rc, er, _, _, r3⟩ := unhide HRN
      obtain ⟨br, oR, ea, hbr, hcr⟩ := r3 (by omega)
      have era : rn.a = some ⟨br, oR, none⟩ := by injection er with e1; rw [e1, ea]
      obtain ⟨sa_, sc_, es, _, _, s3⟩ := (unhide HE).sg
      obtain ⟨bs, os, eas, hbs, hcs⟩ := s3 (by omega)
      have esa : sn.a = some ⟨bs, os, none⟩ := by injection es with e1; rw [e1, eas]
      obtain ⟨i, hi_⟩ : ∃ i, r t = i := ⟨_, rfl⟩
      have hin : i < n := by rw [← hi_]; exact unhide HRL_ t
      obtain ⟨x, hx_⟩ : ∃ x, f t = x := ⟨_, rfl⟩
      obtain ⟨sx, hsx⟩ : ∃ x, s t = x := ⟨_, rfl⟩
      have kr := hcr t (by omega)
      rw [hx_] at kr
      have ks := hcs t hlt
      have ks : W0.cell? ⟨bs, os + t, none⟩ = some (.int .i64 ((s t : Nat) : Int)) := ks
      rw [hsx] at ks
      have HBS := hide hbs
      have HKS := hide ks
      have HCRC := hide hcr
      have HBRL := hide hbr
      have HPK : Hid (∀ W, Below wr.heap.size wr W → Calls Tryd.prog 11 #[.int .i64 x, .int .i64 (n : Int)] W fun e w' => e = .returned (.int .i64 (i : Int)) ∧ Below W.heap.size W w') := fun W hW => by
        refine (pick_val x n hn1 (by omega) W).mono ?_
        rintro e w' ⟨rfl, rfl⟩
        refine ⟨?_, Below.refl _ _⟩
        rw [← hx_, ← unhide HRV, hi_]
      have HC5 : Hid (∀ W, Below wr.heap.size wr W → (fun w' : World => w'.cell? ⟨br, oR + t, none⟩ = some (.int .i64 (x)) ∧ w'.cell? ⟨b3, 0, none⟩ = some (.slice pf.a n pf.c)) W) := fun W hW => by
        have h2 := below_step (unhide HBR) hW
        refine ⟨?_, unhide HC3B _ h2⟩
        rw [h2.cell (p := ⟨br, oR + t, none⟩) hbr]; exact kr
      have hltG : i < G.length := by rw [(unhide HGM).gl, unhide HN]; exact hin
      obtain ⟨bg, og, mg, hga, hbg, g0, hD⟩ := ((unhide HE).h7.2.2.2).at hltG
      obtain ⟨kk, hkk⟩ : ∃ x, (G[0]!).length = x := ⟨_, rfl⟩
      have hlg : (G[i]!).length = kk := by rw [(unhide HGM).gx i (by rw [unhide HN]; exact hin)]; exact hkk
      have hmg := law_len hD
      rw [hlg] at hmg
      have hsk : sx < kk := by rw [← hkk, ← hsx]; exact unhide HSK _ hlt
      obtain ⟨bq, oq, hqa, hbq, hcq⟩ := hD.open hlg (by omega)
      obtain ⟨tr, q0, q1, q2, rr⟩ := hcq sx hsk
      obtain ⟨gc, hgc⟩ : ∃ c, mg.c = c := ⟨_, rfl⟩
      rw [hqa, hmg, hgc] at g0
      have HRR := hide (((unhide HSM).rg i sx hltG (by rw [hlg]; exact hsk)).mono (show 1 ≤ 60 by omega))
      have HTR0 := hide rr
      have HC90 : Hid (∀ (W : World) (t5 : Tri), Below W0.heap.size W0 W → ((fun w' : World => w'.cell? ⟨b6, 0, none⟩ = some (.bool t5.s) ∧ w'.cell? ⟨b6, 1, none⟩ = some (.slice t5.a1 t5.n1 t5.c1) ∧ w'.cell? ⟨b6, 2, none⟩ = some (.slice t5.a2 t5.n2 t5.c2)) W) → (fun w' : World => ((w'.cell? ⟨b7, 0, none⟩ = some (.slice sf.a n sf.c) ∧ w'.cell? ⟨b7, 1, none⟩ = some (.slice sp.a n sp.c) ∧ w'.cell? ⟨b7, 2, none⟩ = some (.slice (some ⟨bg, og, none⟩) n sg.c)) ∧ w'.cell? ⟨b4, 0, none⟩ = some (.slice (some ⟨bs, os, none⟩) T sn.c) ∧ w'.cell? ⟨bs, os + t, none⟩ = some (.int .i64 ((sx : Int)))) ∧ w'.cell? ⟨bg, og + i, none⟩ = some (.slice (some ⟨bq, oq, none⟩) kk gc) ∧ (w'.cell? ⟨b6, 0, none⟩ = some (.bool t5.s) ∧ w'.cell? ⟨b6, 1, none⟩ = some (.slice t5.a1 t5.n1 t5.c1) ∧ w'.cell? ⟨b6, 2, none⟩ = some (.slice t5.a2 t5.n2 t5.c2)) ∧ (w'.cell? ⟨bq, oq + sx * 3, none⟩ = some (.bool tr.s) ∧ w'.cell? ⟨bq, oq + sx * 3 + 1, none⟩ = some (.slice tr.a1 tr.n1 tr.c1) ∧ w'.cell? ⟨bq, oq + sx * 3 + 2, none⟩ = some (.slice tr.a2 tr.n2 tr.c2))) W) := fun W t5 h2 hbox => by
        have h1 := unhide HC7B _ h2
        rw [hga] at h1
        have h4 := unhide HC4B _ h2
        rw [esa] at h4
        refine ⟨⟨h1, h4, ?_⟩, ?_, hbox, ?_, ?_, ?_⟩
        · rw [h2.cell (p := ⟨bs, os + t, none⟩) (unhide HBS)]; exact unhide HKS
        · rw [h2.cell (p := ⟨bg, og + i, none⟩) hbg]; exact g0
        · rw [h2.cell (p := ⟨bq, oq + sx * 3, none⟩) hbq]; exact q0
        · rw [h2.cell (p := ⟨bq, oq + sx * 3 + 1, none⟩) hbq]; exact q1
        · rw [h2.cell (p := ⟨bq, oq + sx * 3 + 2, none⟩) hbq]; exact q2
      have HRL := hide ((unhide HPRS t ht).mono (show 30 ≤ 60 by omega))
      have HCR := hide (unhide HCRS t i hin)
      have HRC : Hid (RS (Blf.cmr m r t i) 60) := (unhide HCR).mono (by omega)
      have HRM : Hid (RS (Blf.pr m s r t * Blf.cmr m r t i) 60) := ((unhide HPRS t ht).mul (unhide HCR)).mono (by omega)
      have HPR : Hid (Blf.pr m s r t * Blf.cmr m r t i * (G[i]!)[sx]! = Blf.pr m s r (t + 1)) := by
        show _ = Blf.pr m s r t * Blf.cmr m r t (r t) * m.g (r t) (s t)
        rw [hi_, hsx]
        have e : m.g i sx = (G[i]!)[sx]! := by rw [← unhide HM]; rfl
        rw [e]
      obtain ⟨qg, hqg⟩ : ∃ q, (G[i]!)[sx]! = q := ⟨_, rfl⟩
      rw [hqg] at HRR HTR0 HPR
      have g1 : (i : Int) < (n : Int) := by omega
      have g2 : (0 : Int) ≤ (i : Int) := by omega
      have g3 : (sx : Int) < (kk : Int) := by omega
      have g4 : (0 : Int) ≤ (sx : Int) := by omega
      have HIR := hide hi_
      have hl12 : sn.a = sn.a := rfl
      rw [era]
      clear r3 er ea hbr hcr era s3 es eas hbs hcs ks kr hx_ hltG hga hbg g0 hD hkk hlg hmg hsk hqa hbq hcq q0 q1 q2 rr hgc hqg hl12 hi_ hsx
      go_wp2_with fail
      clear k4
      refine wp_region_hold (fun w' : World => w'.cell? ⟨br, oR + t, none⟩ = some (.int .i64 (x)) ∧ w'.cell? ⟨b3, 0, none⟩ = some (.slice pf.a n pf.c)) (by kernel_rfl) ?_
      have bd0 : Below wr.heap.size wr wr.drew := (Below.refl _ _).drew
      have hC0 : (fun w' : World => w'.cell? ⟨br, oR + t, none⟩ = some (.int .i64 (x)) ∧ w'.cell? ⟨b3, 0, none⟩ = some (.slice pf.a n pf.c)) wr.drew := unhide HC5 _ bd0
      refine wpHold_take (i := 0) (v := ?_) rfl (by kernel_rfl) (by kernel_rfl) (by kernel_rfl) (fun _ _ _ h => h) (Or.inl ⟨by rfl, ?_⟩) hC0 ?_
      rotate_left
      · intro w hSw; clear hSw; go_simp; (try with_reducible rfl)
      (try simp only [List.getElem_toArray, List.getElem_cons_succ, List.getElem_cons_zero])
      (try simp only [Act.put, List.setIfInBounds_toArray, List.set_cons_zero, List.set_cons_succ])
      refine wpHold_take (i := 1) (v := ?_) rfl (by kernel_rfl) (by kernel_rfl) (by kernel_rfl) (fun _ _ _ h => h) (Or.inl ⟨by rfl, ?_⟩) hC0 ?_
      rotate_left
      · intro w hSw; clear hSw; go_simp; (try with_reducible rfl)
      (try simp only [List.getElem_toArray, List.getElem_cons_succ, List.getElem_cons_zero])
      (try simp only [Act.put, List.setIfInBounds_toArray, List.set_cons_zero, List.set_cons_succ])
      refine wpHold_take (i := 2) (v := ?_) rfl (by kernel_rfl) (by kernel_rfl) (by kernel_rfl) (fun _ _ _ h => h) (Or.inl ⟨by rfl, ?_⟩) hC0 ?_
      rotate_left
      · intro w hSw; clear hSw; go_simp; (try with_reducible rfl)
      (try simp only [List.getElem_toArray, List.getElem_cons_succ, List.getElem_cons_zero])
      (try simp only [Act.put, List.setIfInBounds_toArray, List.set_cons_zero, List.set_cons_succ])
      refine wpHold_take (i := 3) (v := ?_) rfl (by kernel_rfl) (by kernel_rfl) (by kernel_rfl) (fun _ _ _ h => h) (Or.inl ⟨by rfl, ?_⟩) hC0 ?_
      rotate_left
      · intro w hSw; (try dsimp only at hSw); obtain ⟨u0, u1⟩ := hSw; go_simp; (try with_reducible rfl)
      (try simp only [List.getElem_toArray, List.getElem_cons_succ, List.getElem_cons_zero])
      (try simp only [Act.put, List.setIfInBounds_toArray, List.set_cons_zero, List.set_cons_succ])
      refine wpHold_take (i := 4) (v := ?_) rfl (by kernel_rfl) (by kernel_rfl) (by kernel_rfl) (fun _ _ _ h => h) (Or.inl ⟨by rfl, ?_⟩) hC0 ?_
      rotate_left
      · intro w hSw; clear hSw; go_simp; (try with_reducible rfl)
      (try simp only [List.getElem_toArray, List.getElem_cons_succ, List.getElem_cons_zero])
      (try simp only [Act.put, List.setIfInBounds_toArray, List.set_cons_zero, List.set_cons_succ])
      refine wpHold_take (i := 5) (v := ?_) rfl (by kernel_rfl) (by kernel_rfl) (by kernel_rfl) (fun _ _ _ h => h) (Or.inl ⟨by rfl, ?_⟩) hC0 ?_
      rotate_left
      · intro w hSw; (try dsimp only at hSw); obtain ⟨u0, u1⟩ := hSw; go_simp; (try with_reducible rfl)
      (try simp only [List.getElem_toArray, List.getElem_cons_succ, List.getElem_cons_zero])
      (try simp only [Act.put, List.setIfInBounds_toArray, List.set_cons_zero, List.set_cons_succ])
      refine wpHold_take (i := 6) (v := ?_) rfl (by kernel_rfl) (by kernel_rfl) (by kernel_rfl) (fun _ _ _ h => h) (Or.inl ⟨by rfl, ?_⟩) hC0 ?_
      rotate_left
      · intro w hSw; clear hSw; go_simp; (try with_reducible rfl)
      (try simp only [List.getElem_toArray, List.getElem_cons_succ, List.getElem_cons_zero])
      (try simp only [Act.put, List.setIfInBounds_toArray, List.set_cons_zero, List.set_cons_succ])
      refine wpHold_one (k := 7) (by kernel_rfl) rfl (fun K hK => ?_)
      (try simp only [List.getElem_toArray, List.getElem_cons_succ, List.getElem_cons_zero])
      go_simp
      refine (unhide HPK _ bd0).mono ?_
      rintro e xw_1 ⟨rfl, hb_1⟩
      have cc_1 := below_step bd0 hb_1
      have hC_1 : (fun w' : World => w'.cell? ⟨br, oR + t, none⟩ = some (.int .i64 (x)) ∧ w'.cell? ⟨b3, 0, none⟩ = some (.slice pf.a n pf.c)) xw_1 := unhide HC5 _ cc_1
      refine hK.out _ _ hC_1 ?_
      clear hK K
      (try simp only [Act.put, List.setIfInBounds_toArray, List.set_cons_zero, List.set_cons_succ])
      refine wpHold_one (k := 8) (by kernel_rfl) rfl (fun K hK => ?_)
      (try simp only [List.getElem_toArray, List.getElem_cons_succ, List.getElem_cons_zero])
      go_simp
      refine hK.out _ _ hC_1 ?_
      clear hK K
      (try simp only [Act.put, List.setIfInBounds_toArray, List.set_cons_zero, List.set_cons_succ])
      refine wpHold_done (by kernel_rfl) ?_ _
      have HBB := hide (below_step (unhide HBR) cc_1)
      have HXB := hide ((unhide HXR).keep cc_1)
      obtain ⟨w5, hw5⟩ : ∃ W, xw_1 = W := ⟨_, rfl⟩
      rw [hw5] at HBB HXB ⊢
      clear hC0 hC_1 cc_1 hb_1 bd0 HC5 HPK hw5 HBR HXR
      by_cases ht0 : t = 0
      · have e0 : ((t : Int) == 0) = true := by rw [beq_iff_eq]; omega
        obtain ⟨bf_, of_, hfa, hbf, hcf⟩ := ((unhide HE).h7.2.1).open (unhide HN) hn1
        obtain ⟨tc, v0, v1, v2, rt⟩ := hcf i hin
        have HTC : Hid (RatIs w5 tc.val (Blf.cmr m r t i)) := by
          show RatIs w5 tc.val _
          have e : Blf.cmr m r t i = fs[i]! := by rw [ht0, ← unhide HM]; rfl
          rw [e]
          exact rt.below (unhide HBB)
        have HC7 : Hid (∀ W, Below w5.heap.size w5 W → (fun w' : World => (w'.cell? ⟨b7, 0, none⟩ = some (.slice (some ⟨bf_, of_, none⟩) n sf.c) ∧ w'.cell? ⟨b7, 1, none⟩ = some (.slice sp.a n sp.c) ∧ w'.cell? ⟨b7, 2, none⟩ = some (.slice sg.a n sg.c)) ∧ (w'.cell? ⟨b6, 0, none⟩ = some (.bool tx.s) ∧ w'.cell? ⟨b6, 1, none⟩ = some (.slice tx.a1 tx.n1 tx.c1) ∧ w'.cell? ⟨b6, 2, none⟩ = some (.slice tx.a2 tx.n2 tx.c2)) ∧ (w'.cell? ⟨bf_, of_ + i * 3, none⟩ = some (.bool tc.s) ∧ w'.cell? ⟨bf_, of_ + i * 3 + 1, none⟩ = some (.slice tc.a1 tc.n1 tc.c1) ∧ w'.cell? ⟨bf_, of_ + i * 3 + 2, none⟩ = some (.slice tc.a2 tc.n2 tc.c2))) W) := fun W hW => by
          have h2 := below_step (unhide HBB) hW
          have h1 := unhide HC7B _ h2
          rw [hfa] at h1
          refine ⟨h1, (unhide HXB).cells W hW, ?_, ?_, ?_⟩
          · rw [h2.cell (p := ⟨bf_, of_ + i * 3, none⟩) hbf]; exact v0
          · rw [h2.cell (p := ⟨bf_, of_ + i * 3 + 1, none⟩) hbf]; exact v1
          · rw [h2.cell (p := ⟨bf_, of_ + i * 3 + 2, none⟩) hbf]; exact v2
        clear hfa hbf hcf v0 v1 v2 rt ht0
        go_wp2_with fail
        refine wp_region_till (fun w' : World => (w'.cell? ⟨b7, 0, none⟩ = some (.slice (some ⟨bf_, of_, none⟩) n sf.c) ∧ w'.cell? ⟨b7, 1, none⟩ = some (.slice sp.a n sp.c) ∧ w'.cell? ⟨b7, 2, none⟩ = some (.slice sg.a n sg.c)) ∧ (w'.cell? ⟨b6, 0, none⟩ = some (.bool tx.s) ∧ w'.cell? ⟨b6, 1, none⟩ = some (.slice tx.a1 tx.n1 tx.c1) ∧ w'.cell? ⟨b6, 2, none⟩ = some (.slice tx.a2 tx.n2 tx.c2)) ∧ (w'.cell? ⟨bf_, of_ + i * 3, none⟩ = some (.bool tc.s) ∧ w'.cell? ⟨bf_, of_ + i * 3 + 1, none⟩ = some (.slice tc.a1 tc.n1 tc.c1) ∧ w'.cell? ⟨bf_, of_ + i * 3 + 2, none⟩ = some (.slice tc.a2 tc.n2 tc.c2))) 7 (by kernel_rfl) ?_
        have bd0 : Below w5.heap.size w5 w5.drew := (Below.refl _ _).drew
        have hC0 : (fun w' : World => (w'.cell? ⟨b7, 0, none⟩ = some (.slice (some ⟨bf_, of_, none⟩) n sf.c) ∧ w'.cell? ⟨b7, 1, none⟩ = some (.slice sp.a n sp.c) ∧ w'.cell? ⟨b7, 2, none⟩ = some (.slice sg.a n sg.c)) ∧ (w'.cell? ⟨b6, 0, none⟩ = some (.bool tx.s) ∧ w'.cell? ⟨b6, 1, none⟩ = some (.slice tx.a1 tx.n1 tx.c1) ∧ w'.cell? ⟨b6, 2, none⟩ = some (.slice tx.a2 tx.n2 tx.c2)) ∧ (w'.cell? ⟨bf_, of_ + i * 3, none⟩ = some (.bool tc.s) ∧ w'.cell? ⟨bf_, of_ + i * 3 + 1, none⟩ = some (.slice tc.a1 tc.n1 tc.c1) ∧ w'.cell? ⟨bf_, of_ + i * 3 + 2, none⟩ = some (.slice tc.a2 tc.n2 tc.c2))) w5.drew := unhide HC7 _ bd0
        refine wpTill_take (i := 0) (v := ?_) rfl (by kernel_rfl) (by kernel_rfl) (by kernel_rfl) (by kernel_rfl) (by kernel_rfl) (by kernel_rfl) (fun _ _ _ h => h) (Or.inl ⟨by rfl, ?_⟩) hC0 ?_
        rotate_left
        · intro w hSw; (try dsimp only at hSw); obtain ⟨⟨u0, u1, u2⟩, ⟨u3, u4, u5⟩, ⟨u6, u7, u8⟩⟩ := hSw; go_simp; (try with_reducible rfl)
        (try simp only [List.getElem_toArray, List.getElem_cons_succ, List.getElem_cons_zero])
        (try simp only [Act.put, List.setIfInBounds_toArray, List.set_cons_zero, List.set_cons_succ])
        refine wpTill_pure (i := 1) (v := ?_) rfl (by kernel_rfl) (by kernel_rfl) (by kernel_rfl) (by kernel_rfl) (fun _ _ _ h => h) (Or.inl ⟨by rfl, ?_⟩) (fun _ => hC0) ?_
        rotate_left
        · intro w hSw; clear hSw; go_simp; (try with_reducible rfl)
        (try simp only [List.getElem_toArray, List.getElem_cons_succ, List.getElem_cons_zero])
        (try simp only [Act.put, List.setIfInBounds_toArray, List.set_cons_zero, List.set_cons_succ])
        refine wpTill_take (i := 2) (v := ?_) rfl (by kernel_rfl) (by kernel_rfl) (by kernel_rfl) (by kernel_rfl) (by kernel_rfl) (by kernel_rfl) (fun _ _ _ h => h) (Or.inl ⟨by rfl, ?_⟩) hC0 ?_
        rotate_left
        · intro w hSw; (try dsimp only at hSw); obtain ⟨⟨u0, u1, u2⟩, ⟨u3, u4, u5⟩, ⟨u6, u7, u8⟩⟩ := hSw; go_simp; (try with_reducible rfl)
        (try simp only [List.getElem_toArray, List.getElem_cons_succ, List.getElem_cons_zero])
        (try simp only [Act.put, List.setIfInBounds_toArray, List.set_cons_zero, List.set_cons_succ])
        refine wpTill_pure (i := 3) (v := ?_) rfl (by kernel_rfl) (by kernel_rfl) (by kernel_rfl) (by kernel_rfl) (fun _ _ _ h => h) (Or.inl ⟨by rfl, ?_⟩) (fun _ => hC0) ?_
        rotate_left
        · intro w hSw; clear hSw; go_simp; (try with_reducible rfl)
        (try simp only [List.getElem_toArray, List.getElem_cons_succ, List.getElem_cons_zero])
        (try simp only [Act.put, List.setIfInBounds_toArray, List.set_cons_zero, List.set_cons_succ])
        refine wpTill_pure (i := 4) (v := ?_) rfl (by kernel_rfl) (by kernel_rfl) (by kernel_rfl) (by kernel_rfl) (fun _ _ _ h => h) (Or.inl ⟨by rfl, ?_⟩) (fun _ => hC0) ?_
        rotate_left
        · intro w hSw; clear hSw; go_simp; (try with_reducible rfl)
        (try simp only [List.getElem_toArray, List.getElem_cons_succ, List.getElem_cons_zero])
        (try simp only [Act.put, List.setIfInBounds_toArray, List.set_cons_zero, List.set_cons_succ])
        refine wpTill_take (i := 5) (v := ?_) rfl (by kernel_rfl) (by kernel_rfl) (by kernel_rfl) (by kernel_rfl) (by kernel_rfl) (by kernel_rfl) (fun _ _ _ h => h) (Or.inl ⟨by rfl, ?_⟩) hC0 ?_
        rotate_left
        · intro w hSw; (try dsimp only at hSw); obtain ⟨⟨u0, u1, u2⟩, ⟨u3, u4, u5⟩, ⟨u6, u7, u8⟩⟩ := hSw; go_simp; (try with_reducible rfl)
        (try simp only [List.getElem_toArray, List.getElem_cons_succ, List.getElem_cons_zero])
        (try simp only [Act.put, List.setIfInBounds_toArray, List.set_cons_zero, List.set_cons_succ])
        refine wpTill_one (k := 6) (by kernel_rfl) rfl (fun K hK => ?_)
        (try simp only [List.getElem_toArray, List.getElem_cons_succ, List.getElem_cons_zero])
        go_simp
        refine (mulR_any tx.val tc.val _ _ _ ((unhide HXB).2.below bd0) ((unhide HTC).below bd0) 60 (unhide HRL) (unhide HRC) (unhide HKK)).mono ?_
        rintro e xw_1 ⟨xv_1, rfl, hv_1, hb_1⟩
        have cc_1 := below_step bd0 hb_1
        have hC_1 : (fun w' : World => (w'.cell? ⟨b7, 0, none⟩ = some (.slice (some ⟨bf_, of_, none⟩) n sf.c) ∧ w'.cell? ⟨b7, 1, none⟩ = some (.slice sp.a n sp.c) ∧ w'.cell? ⟨b7, 2, none⟩ = some (.slice sg.a n sg.c)) ∧ (w'.cell? ⟨b6, 0, none⟩ = some (.bool tx.s) ∧ w'.cell? ⟨b6, 1, none⟩ = some (.slice tx.a1 tx.n1 tx.c1) ∧ w'.cell? ⟨b6, 2, none⟩ = some (.slice tx.a2 tx.n2 tx.c2)) ∧ (w'.cell? ⟨bf_, of_ + i * 3, none⟩ = some (.bool tc.s) ∧ w'.cell? ⟨bf_, of_ + i * 3 + 1, none⟩ = some (.slice tc.a1 tc.n1 tc.c1) ∧ w'.cell? ⟨bf_, of_ + i * 3 + 2, none⟩ = some (.slice tc.a2 tc.n2 tc.c2))) xw_1 := unhide HC7 _ cc_1
        refine hK.out _ _ (fun _ => hC_1) ?_
        clear hK K
        (try simp only [Act.put, List.setIfInBounds_toArray, List.set_cons_zero, List.set_cons_succ])
        obtain ⟨t5, rfl, r5⟩ := tri_of hv_1
        simp only [Tri.val]
        have Y := (unhide HXB).keep cc_1
        have ⟨l0, l1, l2⟩ := Y.free
        have ⟨y0, y1, y2⟩ := Y.cells _ (Below.refl _ _)
        have NB := Y.set r5
        have YB := (((below_step (unhide HBB) cc_1).setCell (p := ⟨b6, 0, none⟩) (unhide HG6) (.bool t5.s)).setCell (p := ⟨b6, 1, none⟩) (unhide HG6) (.slice t5.a1 t5.n1 t5.c1)).setCell (p := ⟨b6, 2, none⟩) (unhide HG6) (.slice t5.a2 t5.n2 t5.c2)
        obtain ⟨WA, hWA⟩ : ∃ W, ((xw_1.setCell ⟨b6, 0, none⟩ (.bool t5.s)).setCell ⟨b6, 1, none⟩ (.slice t5.a1 t5.n1 t5.c1)).setCell ⟨b6, 2, none⟩ (.slice t5.a2 t5.n2 t5.c2) = W := ⟨_, rfl⟩
        rw [hWA] at NB YB
        have HNB := hide NB
        have HYB := hide YB
        clear Y NB YB r5
        refine wpTill_one (k := 7) (by kernel_rfl) rfl (fun K hK => ?_)
        (try simp only [List.getElem_toArray, List.getElem_cons_succ, List.getElem_cons_zero])
        go_simp
        refine hK.out _ _ (fun h => absurd (h.symm.trans (by kernel_rfl)) Bool.false_ne_true) ?_
        clear hK K
        (try simp only [Act.put, List.setIfInBounds_toArray, List.set_cons_zero, List.set_cons_succ])
        refine wpTill_done (by kernel_rfl) ?_ _
        clear HC7 HTC hC0 hC_1 cc_1 hb_1 bd0 y0 y1 y2 l0 l1 l2 hWA hv_1 e0
        have HXY := HNB
        have HBY := HYB
        have HTR := hide ((unhide HTR0).below (unhide HBY))
        have HC9 : Hid (∀ W, Below WA.heap.size WA W → (fun w' : World => ((w'.cell? ⟨b7, 0, none⟩ = some (.slice sf.a n sf.c) ∧ w'.cell? ⟨b7, 1, none⟩ = some (.slice sp.a n sp.c) ∧ w'.cell? ⟨b7, 2, none⟩ = some (.slice (some ⟨bg, og, none⟩) n sg.c)) ∧ w'.cell? ⟨b4, 0, none⟩ = some (.slice (some ⟨bs, os, none⟩) T sn.c) ∧ w'.cell? ⟨bs, os + t, none⟩ = some (.int .i64 ((sx : Int)))) ∧ w'.cell? ⟨bg, og + i, none⟩ = some (.slice (some ⟨bq, oq, none⟩) kk gc) ∧ (w'.cell? ⟨b6, 0, none⟩ = some (.bool t5.s) ∧ w'.cell? ⟨b6, 1, none⟩ = some (.slice t5.a1 t5.n1 t5.c1) ∧ w'.cell? ⟨b6, 2, none⟩ = some (.slice t5.a2 t5.n2 t5.c2)) ∧ (w'.cell? ⟨bq, oq + sx * 3, none⟩ = some (.bool tr.s) ∧ w'.cell? ⟨bq, oq + sx * 3 + 1, none⟩ = some (.slice tr.a1 tr.n1 tr.c1) ∧ w'.cell? ⟨bq, oq + sx * 3 + 2, none⟩ = some (.slice tr.a2 tr.n2 tr.c2))) W) := fun W hW => unhide HC90 W t5 (below_step (unhide HBY) hW) ((unhide HXY).cells W hW)
        clear HNB HYB HXB HBB
        go_wp2_with fail
        refine wp_region_till (fun w' : World => ((w'.cell? ⟨b7, 0, none⟩ = some (.slice sf.a n sf.c) ∧ w'.cell? ⟨b7, 1, none⟩ = some (.slice sp.a n sp.c) ∧ w'.cell? ⟨b7, 2, none⟩ = some (.slice (some ⟨bg, og, none⟩) n sg.c)) ∧ w'.cell? ⟨b4, 0, none⟩ = some (.slice (some ⟨bs, os, none⟩) T sn.c) ∧ w'.cell? ⟨bs, os + t, none⟩ = some (.int .i64 ((sx : Int)))) ∧ w'.cell? ⟨bg, og + i, none⟩ = some (.slice (some ⟨bq, oq, none⟩) kk gc) ∧ (w'.cell? ⟨b6, 0, none⟩ = some (.bool t5.s) ∧ w'.cell? ⟨b6, 1, none⟩ = some (.slice t5.a1 t5.n1 t5.c1) ∧ w'.cell? ⟨b6, 2, none⟩ = some (.slice t5.a2 t5.n2 t5.c2)) ∧ (w'.cell? ⟨bq, oq + sx * 3, none⟩ = some (.bool tr.s) ∧ w'.cell? ⟨bq, oq + sx * 3 + 1, none⟩ = some (.slice tr.a1 tr.n1 tr.c1) ∧ w'.cell? ⟨bq, oq + sx * 3 + 2, none⟩ = some (.slice tr.a2 tr.n2 tr.c2))) 13 (by kernel_rfl) ?_
        have bd0 : Below WA.heap.size WA WA.drew := (Below.refl _ _).drew
        obtain ⟨Wd, hWd⟩ : ∃ W, WA.drew = W := ⟨_, rfl⟩
        rw [hWd] at bd0 ⊢
        have hC0 : (fun w' : World => ((w'.cell? ⟨b7, 0, none⟩ = some (.slice sf.a n sf.c) ∧ w'.cell? ⟨b7, 1, none⟩ = some (.slice sp.a n sp.c) ∧ w'.cell? ⟨b7, 2, none⟩ = some (.slice (some ⟨bg, og, none⟩) n sg.c)) ∧ w'.cell? ⟨b4, 0, none⟩ = some (.slice (some ⟨bs, os, none⟩) T sn.c) ∧ w'.cell? ⟨bs, os + t, none⟩ = some (.int .i64 ((sx : Int)))) ∧ w'.cell? ⟨bg, og + i, none⟩ = some (.slice (some ⟨bq, oq, none⟩) kk gc) ∧ (w'.cell? ⟨b6, 0, none⟩ = some (.bool t5.s) ∧ w'.cell? ⟨b6, 1, none⟩ = some (.slice t5.a1 t5.n1 t5.c1) ∧ w'.cell? ⟨b6, 2, none⟩ = some (.slice t5.a2 t5.n2 t5.c2)) ∧ (w'.cell? ⟨bq, oq + sx * 3, none⟩ = some (.bool tr.s) ∧ w'.cell? ⟨bq, oq + sx * 3 + 1, none⟩ = some (.slice tr.a1 tr.n1 tr.c1) ∧ w'.cell? ⟨bq, oq + sx * 3 + 2, none⟩ = some (.slice tr.a2 tr.n2 tr.c2))) Wd := unhide HC9 _ bd0
        refine wpTill_take (i := 0) (v := ?_) rfl (by kernel_rfl) (by kernel_rfl) (by kernel_rfl) (by kernel_rfl) (by kernel_rfl) (by kernel_rfl) (fun _ _ _ h => h) (Or.inl ⟨by rfl, ?_⟩) hC0 ?_
        rotate_left
        · intro w hSw; (try dsimp only at hSw); obtain ⟨⟨⟨u0, u1, u2⟩, u3, u4⟩, u5, ⟨u6, u7, u8⟩, ⟨u9, u10, u11⟩⟩ := hSw; go_simp; (try with_reducible rfl)
        (try simp only [List.getElem_toArray, List.getElem_cons_succ, List.getElem_cons_zero])
        (try simp only [Act.put, List.setIfInBounds_toArray, List.set_cons_zero, List.set_cons_succ])
        refine wpTill_pure (i := 1) (v := ?_) rfl (by kernel_rfl) (by kernel_rfl) (by kernel_rfl) (by kernel_rfl) (fun _ _ _ h => h) (Or.inl ⟨by rfl, ?_⟩) (fun _ => hC0) ?_
        rotate_left
        · intro w hSw; clear hSw; go_simp; (try with_reducible rfl)
        (try simp only [List.getElem_toArray, List.getElem_cons_succ, List.getElem_cons_zero])
        (try simp only [Act.put, List.setIfInBounds_toArray, List.set_cons_zero, List.set_cons_succ])
        refine wpTill_take (i := 2) (v := ?_) rfl (by kernel_rfl) (by kernel_rfl) (by kernel_rfl) (by kernel_rfl) (by kernel_rfl) (by kernel_rfl) (fun _ _ _ h => h) (Or.inl ⟨by rfl, ?_⟩) hC0 ?_
        rotate_left
        · intro w hSw; (try dsimp only at hSw); obtain ⟨⟨⟨u0, u1, u2⟩, u3, u4⟩, u5, ⟨u6, u7, u8⟩, ⟨u9, u10, u11⟩⟩ := hSw; go_simp; (try with_reducible rfl)
        (try simp only [List.getElem_toArray, List.getElem_cons_succ, List.getElem_cons_zero])
        (try simp only [Act.put, List.setIfInBounds_toArray, List.set_cons_zero, List.set_cons_succ])
        refine wpTill_pure (i := 3) (v := ?_) rfl (by kernel_rfl) (by kernel_rfl) (by kernel_rfl) (by kernel_rfl) (fun _ _ _ h => h) (Or.inl ⟨by rfl, ?_⟩) (fun _ => hC0) ?_
        rotate_left
        · intro w hSw; clear hSw; go_simp; (try with_reducible rfl)
        (try simp only [List.getElem_toArray, List.getElem_cons_succ, List.getElem_cons_zero])
        (try simp only [Act.put, List.setIfInBounds_toArray, List.set_cons_zero, List.set_cons_succ])
        refine wpTill_pure (i := 4) (v := ?_) rfl (by kernel_rfl) (by kernel_rfl) (by kernel_rfl) (by kernel_rfl) (fun _ _ _ h => h) (Or.inl ⟨by rfl, ?_⟩) (fun _ => hC0) ?_
        rotate_left
        · intro w hSw; clear hSw; go_simp; (try with_reducible rfl)
        (try simp only [List.getElem_toArray, List.getElem_cons_succ, List.getElem_cons_zero])
        (try simp only [Act.put, List.setIfInBounds_toArray, List.set_cons_zero, List.set_cons_succ])
        refine wpTill_take (i := 5) (v := ?_) rfl (by kernel_rfl) (by kernel_rfl) (by kernel_rfl) (by kernel_rfl) (by kernel_rfl) (by kernel_rfl) (fun _ _ _ h => h) (Or.inl ⟨by rfl, ?_⟩) hC0 ?_
        rotate_left
        · intro w hSw; (try dsimp only at hSw); obtain ⟨⟨⟨u0, u1, u2⟩, u3, u4⟩, u5, ⟨u6, u7, u8⟩, ⟨u9, u10, u11⟩⟩ := hSw; go_simp; (try with_reducible rfl)
        (try simp only [List.getElem_toArray, List.getElem_cons_succ, List.getElem_cons_zero])
        (try simp only [Act.put, List.setIfInBounds_toArray, List.set_cons_zero, List.set_cons_succ])
        refine wpTill_take (i := 6) (v := ?_) rfl (by kernel_rfl) (by kernel_rfl) (by kernel_rfl) (by kernel_rfl) (by kernel_rfl) (by kernel_rfl) (fun _ _ _ h => h) (Or.inl ⟨by rfl, ?_⟩) hC0 ?_
        rotate_left
        · intro w hSw; (try dsimp only at hSw); obtain ⟨⟨⟨u0, u1, u2⟩, u3, u4⟩, u5, ⟨u6, u7, u8⟩, ⟨u9, u10, u11⟩⟩ := hSw; go_simp; (try with_reducible rfl)
        (try simp only [List.getElem_toArray, List.getElem_cons_succ, List.getElem_cons_zero])
        (try simp only [Act.put, List.setIfInBounds_toArray, List.set_cons_zero, List.set_cons_succ])
        refine wpTill_pure (i := 7) (v := ?_) rfl (by kernel_rfl) (by kernel_rfl) (by kernel_rfl) (by kernel_rfl) (fun _ _ _ h => h) (Or.inl ⟨by rfl, ?_⟩) (fun _ => hC0) ?_
        rotate_left
        · intro w hSw; clear hSw; go_simp; (try with_reducible rfl)
        (try simp only [List.getElem_toArray, List.getElem_cons_succ, List.getElem_cons_zero])
        (try simp only [Act.put, List.setIfInBounds_toArray, List.set_cons_zero, List.set_cons_succ])
        refine wpTill_pure (i := 8) (v := ?_) rfl (by kernel_rfl) (by kernel_rfl) (by kernel_rfl) (by kernel_rfl) (fun _ _ _ h => h) (Or.inl ⟨by rfl, ?_⟩) (fun _ => hC0) ?_
        rotate_left
        · intro w hSw; clear hSw; go_simp; (try with_reducible rfl)
        (try simp only [List.getElem_toArray, List.getElem_cons_succ, List.getElem_cons_zero])
        (try simp only [Act.put, List.setIfInBounds_toArray, List.set_cons_zero, List.set_cons_succ])
        refine wpTill_take (i := 9) (v := ?_) rfl (by kernel_rfl) (by kernel_rfl) (by kernel_rfl) (by kernel_rfl) (by kernel_rfl) (by kernel_rfl) (fun _ _ _ h => h) (Or.inl ⟨by rfl, ?_⟩) hC0 ?_
        rotate_left
        · intro w hSw; (try dsimp only at hSw); obtain ⟨⟨⟨u0, u1, u2⟩, u3, u4⟩, u5, ⟨u6, u7, u8⟩, ⟨u9, u10, u11⟩⟩ := hSw; go_simp; (try with_reducible rfl)
        (try simp only [List.getElem_toArray, List.getElem_cons_succ, List.getElem_cons_zero])
        (try simp only [Act.put, List.setIfInBounds_toArray, List.set_cons_zero, List.set_cons_succ])
        refine wpTill_pure (i := 10) (v := ?_) rfl (by kernel_rfl) (by kernel_rfl) (by kernel_rfl) (by kernel_rfl) (fun _ _ _ h => h) (Or.inl ⟨by rfl, ?_⟩) (fun _ => hC0) ?_
        rotate_left
        · intro w hSw; clear hSw; go_simp; (try with_reducible rfl)
        (try simp only [List.getElem_toArray, List.getElem_cons_succ, List.getElem_cons_zero])
        (try simp only [Act.put, List.setIfInBounds_toArray, List.set_cons_zero, List.set_cons_succ])
        refine wpTill_take (i := 11) (v := ?_) rfl (by kernel_rfl) (by kernel_rfl) (by kernel_rfl) (by kernel_rfl) (by kernel_rfl) (by kernel_rfl) (fun _ _ _ h => h) (Or.inl ⟨by rfl, ?_⟩) hC0 ?_
        rotate_left
        · intro w hSw; (try dsimp only at hSw); obtain ⟨⟨⟨u0, u1, u2⟩, u3, u4⟩, u5, ⟨u6, u7, u8⟩, ⟨u9, u10, u11⟩⟩ := hSw; go_simp; (try with_reducible rfl)
        (try simp only [List.getElem_toArray, List.getElem_cons_succ, List.getElem_cons_zero])
        (try simp only [Act.put, List.setIfInBounds_toArray, List.set_cons_zero, List.set_cons_succ])
        refine wpTill_one (k := 12) (by kernel_rfl) rfl (fun K hK => ?_)
        (try simp only [List.getElem_toArray, List.getElem_cons_succ, List.getElem_cons_zero])
        go_simp
        refine (mulR_any t5.val tr.val _ _ _ ((unhide HXY).2.below bd0) ((unhide HTR).below bd0) 60 (unhide HRM) (unhide HRR) (unhide HKK)).mono ?_
        rintro e xw_1 ⟨xv_1, rfl, hv_1, hb_1⟩
        have cc_1 := below_step bd0 hb_1
        have hC_1 : (fun w' : World => ((w'.cell? ⟨b7, 0, none⟩ = some (.slice sf.a n sf.c) ∧ w'.cell? ⟨b7, 1, none⟩ = some (.slice sp.a n sp.c) ∧ w'.cell? ⟨b7, 2, none⟩ = some (.slice (some ⟨bg, og, none⟩) n sg.c)) ∧ w'.cell? ⟨b4, 0, none⟩ = some (.slice (some ⟨bs, os, none⟩) T sn.c) ∧ w'.cell? ⟨bs, os + t, none⟩ = some (.int .i64 ((sx : Int)))) ∧ w'.cell? ⟨bg, og + i, none⟩ = some (.slice (some ⟨bq, oq, none⟩) kk gc) ∧ (w'.cell? ⟨b6, 0, none⟩ = some (.bool t5.s) ∧ w'.cell? ⟨b6, 1, none⟩ = some (.slice t5.a1 t5.n1 t5.c1) ∧ w'.cell? ⟨b6, 2, none⟩ = some (.slice t5.a2 t5.n2 t5.c2)) ∧ (w'.cell? ⟨bq, oq + sx * 3, none⟩ = some (.bool tr.s) ∧ w'.cell? ⟨bq, oq + sx * 3 + 1, none⟩ = some (.slice tr.a1 tr.n1 tr.c1) ∧ w'.cell? ⟨bq, oq + sx * 3 + 2, none⟩ = some (.slice tr.a2 tr.n2 tr.c2))) xw_1 := unhide HC9 _ cc_1
        refine hK.out _ _ (fun _ => hC_1) ?_
        clear hK K
        (try simp only [Act.put, List.setIfInBounds_toArray, List.set_cons_zero, List.set_cons_succ])
        obtain ⟨t6, rfl, r6⟩ := tri_of hv_1
        simp only [Tri.val]
        have Y := (unhide HXY).keep cc_1
        have ⟨l0, l1, l2⟩ := Y.free
        have ⟨y0, y1, y2⟩ := Y.cells _ (Below.refl _ _)
        have NB := Y.set r6
        have YB := (((below_step (unhide HBY) cc_1).setCell (p := ⟨b6, 0, none⟩) (unhide HG6) (.bool t6.s)).setCell (p := ⟨b6, 1, none⟩) (unhide HG6) (.slice t6.a1 t6.n1 t6.c1)).setCell (p := ⟨b6, 2, none⟩) (unhide HG6) (.slice t6.a2 t6.n2 t6.c2)
        obtain ⟨WC, hWC⟩ : ∃ W, ((xw_1.setCell ⟨b6, 0, none⟩ (.bool t6.s)).setCell ⟨b6, 1, none⟩ (.slice t6.a1 t6.n1 t6.c1)).setCell ⟨b6, 2, none⟩ (.slice t6.a2 t6.n2 t6.c2) = W := ⟨_, rfl⟩
        rw [hWC] at NB YB
        have HNC := hide NB
        have HYC := hide YB
        clear Y NB YB r6
        refine wpTill_one (k := 13) (by kernel_rfl) rfl (fun K hK => ?_)
        (try simp only [List.getElem_toArray, List.getElem_cons_succ, List.getElem_cons_zero])
        go_simp
        refine hK.out _ _ (fun h => absurd (h.symm.trans (by kernel_rfl)) Bool.false_ne_true) ?_
        clear hK K
        (try simp only [Act.put, List.setIfInBounds_toArray, List.set_cons_zero, List.set_cons_succ])
        refine wpTill_done (by kernel_rfl) ?_ _
        rw [unhide HPR] at HNC
        clear hC0 hC_1 cc_1 hb_1 bd0 y0 y1 y2 l0 l1 l2 hWC hv_1 HC9 HTR hWd
        have k4 := unhide HC4B _ (unhide HYC)
        go_wp2_with fail
        exact ⟨⟨t + 1, t6, by go_num, by omega, unhide HNC, unhide HYC⟩, by simp [intOf]; omega⟩
      · obtain ⟨u, hu⟩ : ∃ u, t = u + 1 := ⟨t - 1, by omega⟩
        have e0 : ((t : Int) == 0) = false := by rw [beq_eq_false_iff_ne]; omega
        have e1 : IntKind.i64.wrap ((t : Int) - 1) = (u : Int) := by rw [IntKind.wrap_i64]; omega
        have u1 : (u : Int) < (L : Int) := by omega
        have u0' : (0 : Int) ≤ (u : Int) := by omega
        obtain ⟨r0, hr0⟩ : ∃ x, r u = x := ⟨_, rfl⟩
        have hr0n : r0 < n := by rw [← hr0]; exact unhide HRL_ u
        obtain ⟨x0, hx0⟩ : ∃ x, f u = x := ⟨_, rfl⟩
        have kr := unhide HCRC u (by omega)
        rw [hx0] at kr
        have HPK2 : Hid (∀ W, Below w5.heap.size w5 W → Calls Tryd.prog 11 #[.int .i64 x0, .int .i64 (n : Int)] W fun e w' => e = .returned (.int .i64 (r0 : Int)) ∧ Below W.heap.size W w') := fun W hW => by
          refine (pick_val x0 n hn1 (by omega) W).mono ?_
          rintro e w' ⟨rfl, rfl⟩
          refine ⟨?_, Below.refl _ _⟩
          rw [← hx0, ← unhide HRV, hr0]
        have hltP : r0 < P.length := by rw [(unhide HGM).pl, unhide HN]; exact hr0n
        obtain ⟨bp, op, mp, hpa, hbp, p0, hPl⟩ := ((unhide HE).h7.2.2.1).at hltP
        have hlp : (P[r0]!).length = n := by rw [(unhide HGM).px r0 (by rw [unhide HN]; exact hr0n)]; exact unhide HN
        have hmp := law_len hPl
        rw [hlp] at hmp
        obtain ⟨bf_, of_, hfa, hbf, hcf⟩ := hPl.open hlp hn1
        obtain ⟨tc, v0, v1, v2, rt⟩ := hcf i hin
        obtain ⟨mc, hmc⟩ : ∃ c, mp.c = c := ⟨_, rfl⟩
        rw [hfa, hmp, hmc] at p0
        have HTC : Hid (RatIs w5 tc.val (Blf.cmr m r t i)) := by
          show RatIs w5 tc.val _
          have e : Blf.cmr m r t i = (P[r0]!)[i]! := by rw [hu, ← hr0, ← unhide HM]; rfl
          rw [e]
          exact rt.below (unhide HBB)
        have HC8 : Hid (∀ W, Below w5.heap.size w5 W → (fun w' : World => ((w'.cell? ⟨b7, 0, none⟩ = some (.slice sf.a n sf.c) ∧ w'.cell? ⟨b7, 1, none⟩ = some (.slice (some ⟨bp, op, none⟩) n sp.c) ∧ w'.cell? ⟨b7, 2, none⟩ = some (.slice sg.a n sg.c)) ∧ w'.cell? ⟨br, oR + u, none⟩ = some (.int .i64 (x0)) ∧ w'.cell? ⟨b3, 0, none⟩ = some (.slice pf.a n pf.c)) ∧ w'.cell? ⟨bp, op + r0, none⟩ = some (.slice (some ⟨bf_, of_, none⟩) n mc) ∧ (w'.cell? ⟨b6, 0, none⟩ = some (.bool tx.s) ∧ w'.cell? ⟨b6, 1, none⟩ = some (.slice tx.a1 tx.n1 tx.c1) ∧ w'.cell? ⟨b6, 2, none⟩ = some (.slice tx.a2 tx.n2 tx.c2)) ∧ (w'.cell? ⟨bf_, of_ + i * 3, none⟩ = some (.bool tc.s) ∧ w'.cell? ⟨bf_, of_ + i * 3 + 1, none⟩ = some (.slice tc.a1 tc.n1 tc.c1) ∧ w'.cell? ⟨bf_, of_ + i * 3 + 2, none⟩ = some (.slice tc.a2 tc.n2 tc.c2))) W) := fun W hW => by
          have h2 := below_step (unhide HBB) hW
          have h1 := unhide HC7B _ h2
          rw [hpa] at h1
          refine ⟨⟨h1, ?_, unhide HC3B _ h2⟩, ?_, (unhide HXB).cells W hW, ?_, ?_, ?_⟩
          · rw [h2.cell (p := ⟨br, oR + u, none⟩) (unhide HBRL)]; exact kr
          · rw [h2.cell (p := ⟨bp, op + r0, none⟩) hbp]; exact p0
          · rw [h2.cell (p := ⟨bf_, of_ + i * 3, none⟩) hbf]; exact v0
          · rw [h2.cell (p := ⟨bf_, of_ + i * 3 + 1, none⟩) hbf]; exact v1
          · rw [h2.cell (p := ⟨bf_, of_ + i * 3 + 2, none⟩) hbf]; exact v2
        have g5 : (r0 : Int) < (n : Int) := by omega
        have g6 : (0 : Int) ≤ (r0 : Int) := by omega
        clear hu hr0 hr0n hx0 kr hltP hpa hbp p0 hPl hlp hmp hfa hbf hcf v0 v1 v2 rt hmc ht0
        go_wp2_with fail
        refine wp_region_till (fun w' : World => ((w'.cell? ⟨b7, 0, none⟩ = some (.slice sf.a n sf.c) ∧ w'.cell? ⟨b7, 1, none⟩ = some (.slice (some ⟨bp, op, none⟩) n sp.c) ∧ w'.cell? ⟨b7, 2, none⟩ = some (.slice sg.a n sg.c)) ∧ w'.cell? ⟨br, oR + u, none⟩ = some (.int .i64 (x0)) ∧ w'.cell? ⟨b3, 0, none⟩ = some (.slice pf.a n pf.c)) ∧ w'.cell? ⟨bp, op + r0, none⟩ = some (.slice (some ⟨bf_, of_, none⟩) n mc) ∧ (w'.cell? ⟨b6, 0, none⟩ = some (.bool tx.s) ∧ w'.cell? ⟨b6, 1, none⟩ = some (.slice tx.a1 tx.n1 tx.c1) ∧ w'.cell? ⟨b6, 2, none⟩ = some (.slice tx.a2 tx.n2 tx.c2)) ∧ (w'.cell? ⟨bf_, of_ + i * 3, none⟩ = some (.bool tc.s) ∧ w'.cell? ⟨bf_, of_ + i * 3 + 1, none⟩ = some (.slice tc.a1 tc.n1 tc.c1) ∧ w'.cell? ⟨bf_, of_ + i * 3 + 2, none⟩ = some (.slice tc.a2 tc.n2 tc.c2))) 18 (by kernel_rfl) ?_
        have bd0 : Below w5.heap.size w5 w5.drew := (Below.refl _ _).drew
        have hC0 : (fun w' : World => ((w'.cell? ⟨b7, 0, none⟩ = some (.slice sf.a n sf.c) ∧ w'.cell? ⟨b7, 1, none⟩ = some (.slice (some ⟨bp, op, none⟩) n sp.c) ∧ w'.cell? ⟨b7, 2, none⟩ = some (.slice sg.a n sg.c)) ∧ w'.cell? ⟨br, oR + u, none⟩ = some (.int .i64 (x0)) ∧ w'.cell? ⟨b3, 0, none⟩ = some (.slice pf.a n pf.c)) ∧ w'.cell? ⟨bp, op + r0, none⟩ = some (.slice (some ⟨bf_, of_, none⟩) n mc) ∧ (w'.cell? ⟨b6, 0, none⟩ = some (.bool tx.s) ∧ w'.cell? ⟨b6, 1, none⟩ = some (.slice tx.a1 tx.n1 tx.c1) ∧ w'.cell? ⟨b6, 2, none⟩ = some (.slice tx.a2 tx.n2 tx.c2)) ∧ (w'.cell? ⟨bf_, of_ + i * 3, none⟩ = some (.bool tc.s) ∧ w'.cell? ⟨bf_, of_ + i * 3 + 1, none⟩ = some (.slice tc.a1 tc.n1 tc.c1) ∧ w'.cell? ⟨bf_, of_ + i * 3 + 2, none⟩ = some (.slice tc.a2 tc.n2 tc.c2))) w5.drew := unhide HC8 _ bd0
        refine wpTill_take (i := 0) (v := ?_) rfl (by kernel_rfl) (by kernel_rfl) (by kernel_rfl) (by kernel_rfl) (by kernel_rfl) (by kernel_rfl) (fun _ _ _ h => h) (Or.inl ⟨by rfl, ?_⟩) hC0 ?_
        rotate_left
        · intro w hSw; (try dsimp only at hSw); obtain ⟨⟨⟨u0, u1, u2⟩, u3, u4⟩, u5, ⟨u6, u7, u8⟩, ⟨u9, u10, u11⟩⟩ := hSw; go_simp; (try with_reducible rfl)
        (try simp only [List.getElem_toArray, List.getElem_cons_succ, List.getElem_cons_zero])
        (try simp only [Act.put, List.setIfInBounds_toArray, List.set_cons_zero, List.set_cons_succ])
        refine wpTill_pure (i := 1) (v := ?_) rfl (by kernel_rfl) (by kernel_rfl) (by kernel_rfl) (by kernel_rfl) (fun _ _ _ h => h) (Or.inl ⟨by rfl, ?_⟩) (fun _ => hC0) ?_
        rotate_left
        · intro w hSw; clear hSw; go_simp; (try with_reducible rfl)
        (try simp only [List.getElem_toArray, List.getElem_cons_succ, List.getElem_cons_zero])
        (try simp only [Act.put, List.setIfInBounds_toArray, List.set_cons_zero, List.set_cons_succ])
        refine wpTill_take (i := 2) (v := ?_) rfl (by kernel_rfl) (by kernel_rfl) (by kernel_rfl) (by kernel_rfl) (by kernel_rfl) (by kernel_rfl) (fun _ _ _ h => h) (Or.inl ⟨by rfl, ?_⟩) hC0 ?_
        rotate_left
        · intro w hSw; (try dsimp only at hSw); obtain ⟨⟨⟨u0, u1, u2⟩, u3, u4⟩, u5, ⟨u6, u7, u8⟩, ⟨u9, u10, u11⟩⟩ := hSw; go_simp; (try with_reducible rfl)
        (try simp only [List.getElem_toArray, List.getElem_cons_succ, List.getElem_cons_zero])
        (try simp only [Act.put, List.setIfInBounds_toArray, List.set_cons_zero, List.set_cons_succ])
        refine wpTill_pure (i := 3) (v := ?_) rfl (by kernel_rfl) (by kernel_rfl) (by kernel_rfl) (by kernel_rfl) (fun _ _ _ h => h) (Or.inl ⟨by rfl, ?_⟩) (fun _ => hC0) ?_
        rotate_left
        · intro w hSw; clear hSw; go_simp; (try with_reducible rfl)
        (try simp only [List.getElem_toArray, List.getElem_cons_succ, List.getElem_cons_zero])
        (try simp only [Act.put, List.setIfInBounds_toArray, List.set_cons_zero, List.set_cons_succ])
        refine wpTill_pure (i := 4) (v := ?_) rfl (by kernel_rfl) (by kernel_rfl) (by kernel_rfl) (by kernel_rfl) (fun _ _ _ h => h) (Or.inl ⟨by rfl, ?_⟩) (fun _ => hC0) ?_
        rotate_left
        · intro w hSw; clear hSw; go_simp; (try with_reducible rfl)
        (try simp only [List.getElem_toArray, List.getElem_cons_succ, List.getElem_cons_zero])
        (try simp only [Act.put, List.setIfInBounds_toArray, List.set_cons_zero, List.set_cons_succ])
        refine wpTill_pure (i := 5) (v := ?_) rfl (by kernel_rfl) (by kernel_rfl) (by kernel_rfl) (by kernel_rfl) (fun _ _ _ h => h) (Or.inl ⟨by rfl, ?_⟩) (fun _ => hC0) ?_
        rotate_left
        · intro w hSw; clear hSw; go_simp; (try with_reducible rfl)
        (try simp only [List.getElem_toArray, List.getElem_cons_succ, List.getElem_cons_zero])
        (try simp only [Act.put, List.setIfInBounds_toArray, List.set_cons_zero, List.set_cons_succ])
        refine wpTill_pure (i := 6) (v := ?_) rfl (by kernel_rfl) (by kernel_rfl) (by kernel_rfl) (by kernel_rfl) (fun _ _ _ h => h) (Or.inl ⟨by rfl, ?_⟩) (fun _ => hC0) ?_
        rotate_left
        · intro w hSw; clear hSw; go_simp; (try with_reducible rfl)
        (try simp only [List.getElem_toArray, List.getElem_cons_succ, List.getElem_cons_zero])
        (try simp only [Act.put, List.setIfInBounds_toArray, List.set_cons_zero, List.set_cons_succ])
        refine wpTill_take (i := 7) (v := ?_) rfl (by kernel_rfl) (by kernel_rfl) (by kernel_rfl) (by kernel_rfl) (by kernel_rfl) (by kernel_rfl) (fun _ _ _ h => h) (Or.inl ⟨by rfl, ?_⟩) hC0 ?_
        rotate_left
        · intro w hSw; (try dsimp only at hSw); obtain ⟨⟨⟨u0, u1, u2⟩, u3, u4⟩, u5, ⟨u6, u7, u8⟩, ⟨u9, u10, u11⟩⟩ := hSw; go_simp; (try with_reducible rfl)
        (try simp only [List.getElem_toArray, List.getElem_cons_succ, List.getElem_cons_zero])
        (try simp only [Act.put, List.setIfInBounds_toArray, List.set_cons_zero, List.set_cons_succ])
        refine wpTill_pure (i := 8) (v := ?_) rfl (by kernel_rfl) (by kernel_rfl) (by kernel_rfl) (by kernel_rfl) (fun _ _ _ h => h) (Or.inl ⟨by rfl, ?_⟩) (fun _ => hC0) ?_
        rotate_left
        · intro w hSw; clear hSw; go_simp; (try with_reducible rfl)
        (try simp only [List.getElem_toArray, List.getElem_cons_succ, List.getElem_cons_zero])
        (try simp only [Act.put, List.setIfInBounds_toArray, List.set_cons_zero, List.set_cons_succ])
        refine wpTill_take (i := 9) (v := ?_) rfl (by kernel_rfl) (by kernel_rfl) (by kernel_rfl) (by kernel_rfl) (by kernel_rfl) (by kernel_rfl) (fun _ _ _ h => h) (Or.inl ⟨by rfl, ?_⟩) hC0 ?_
        rotate_left
        · intro w hSw; (try dsimp only at hSw); obtain ⟨⟨⟨u0, u1, u2⟩, u3, u4⟩, u5, ⟨u6, u7, u8⟩, ⟨u9, u10, u11⟩⟩ := hSw; go_simp; (try with_reducible rfl)
        (try simp only [List.getElem_toArray, List.getElem_cons_succ, List.getElem_cons_zero])
        (try simp only [Act.put, List.setIfInBounds_toArray, List.set_cons_zero, List.set_cons_succ])
        refine wpTill_pure (i := 10) (v := ?_) rfl (by kernel_rfl) (by kernel_rfl) (by kernel_rfl) (by kernel_rfl) (fun _ _ _ h => h) (Or.inl ⟨by rfl, ?_⟩) (fun _ => hC0) ?_
        rotate_left
        · intro w hSw; clear hSw; go_simp; (try with_reducible rfl)
        (try simp only [List.getElem_toArray, List.getElem_cons_succ, List.getElem_cons_zero])
        (try simp only [Act.put, List.setIfInBounds_toArray, List.set_cons_zero, List.set_cons_succ])
        refine wpTill_pure (i := 14) (v := ?_) rfl (by kernel_rfl) (by kernel_rfl) (by kernel_rfl) (by kernel_rfl) (fun _ _ _ h => h) (Or.inl ⟨by rfl, ?_⟩) (fun _ => hC0) ?_
        rotate_left
        · intro w hSw; clear hSw; go_simp; (try with_reducible rfl)
        (try simp only [List.getElem_toArray, List.getElem_cons_succ, List.getElem_cons_zero])
        (try simp only [Act.put, List.setIfInBounds_toArray, List.set_cons_zero, List.set_cons_succ])
        refine wpTill_one (k := 11) (by kernel_rfl) rfl (fun K hK => ?_)
        (try simp only [List.getElem_toArray, List.getElem_cons_succ, List.getElem_cons_zero])
        go_simp
        refine (unhide HPK2 _ bd0).mono ?_
        rintro e xw_1 ⟨rfl, hb_1⟩
        have cc_1 := below_step bd0 hb_1
        have hC_1 : (fun w' : World => ((w'.cell? ⟨b7, 0, none⟩ = some (.slice sf.a n sf.c) ∧ w'.cell? ⟨b7, 1, none⟩ = some (.slice (some ⟨bp, op, none⟩) n sp.c) ∧ w'.cell? ⟨b7, 2, none⟩ = some (.slice sg.a n sg.c)) ∧ w'.cell? ⟨br, oR + u, none⟩ = some (.int .i64 (x0)) ∧ w'.cell? ⟨b3, 0, none⟩ = some (.slice pf.a n pf.c)) ∧ w'.cell? ⟨bp, op + r0, none⟩ = some (.slice (some ⟨bf_, of_, none⟩) n mc) ∧ (w'.cell? ⟨b6, 0, none⟩ = some (.bool tx.s) ∧ w'.cell? ⟨b6, 1, none⟩ = some (.slice tx.a1 tx.n1 tx.c1) ∧ w'.cell? ⟨b6, 2, none⟩ = some (.slice tx.a2 tx.n2 tx.c2)) ∧ (w'.cell? ⟨bf_, of_ + i * 3, none⟩ = some (.bool tc.s) ∧ w'.cell? ⟨bf_, of_ + i * 3 + 1, none⟩ = some (.slice tc.a1 tc.n1 tc.c1) ∧ w'.cell? ⟨bf_, of_ + i * 3 + 2, none⟩ = some (.slice tc.a2 tc.n2 tc.c2))) xw_1 := unhide HC8 _ cc_1
        refine hK.out _ _ (fun _ => hC_1) ?_
        clear hK K
        (try simp only [Act.put, List.setIfInBounds_toArray, List.set_cons_zero, List.set_cons_succ])
        refine wpTill_pure (i := 12) (v := ?_) rfl (by kernel_rfl) (by kernel_rfl) (by kernel_rfl) (by kernel_rfl) (fun _ _ _ h => h) (Or.inl ⟨by rfl, ?_⟩) (fun _ => hC_1) ?_
        rotate_left
        · intro w hSw; clear hSw; go_simp; (try with_reducible rfl)
        (try simp only [List.getElem_toArray, List.getElem_cons_succ, List.getElem_cons_zero])
        (try simp only [Act.put, List.setIfInBounds_toArray, List.set_cons_zero, List.set_cons_succ])
        refine wpTill_take (i := 13) (v := ?_) rfl (by kernel_rfl) (by kernel_rfl) (by kernel_rfl) (by kernel_rfl) (by kernel_rfl) (by kernel_rfl) (fun _ _ _ h => h) (Or.inl ⟨by rfl, ?_⟩) hC_1 ?_
        rotate_left
        · intro w hSw; (try dsimp only at hSw); obtain ⟨⟨⟨u0, u1, u2⟩, u3, u4⟩, u5, ⟨u6, u7, u8⟩, ⟨u9, u10, u11⟩⟩ := hSw; go_simp; (try with_reducible rfl)
        (try simp only [List.getElem_toArray, List.getElem_cons_succ, List.getElem_cons_zero])
        (try simp only [Act.put, List.setIfInBounds_toArray, List.set_cons_zero, List.set_cons_succ])
        refine wpTill_pure (i := 15) (v := ?_) rfl (by kernel_rfl) (by kernel_rfl) (by kernel_rfl) (by kernel_rfl) (fun _ _ _ h => h) (Or.inl ⟨by rfl, ?_⟩) (fun _ => hC_1) ?_
        rotate_left
        · intro w hSw; clear hSw; go_simp; (try with_reducible rfl)
        (try simp only [List.getElem_toArray, List.getElem_cons_succ, List.getElem_cons_zero])
        (try simp only [Act.put, List.setIfInBounds_toArray, List.set_cons_zero, List.set_cons_succ])
        refine wpTill_take (i := 16) (v := ?_) rfl (by kernel_rfl) (by kernel_rfl) (by kernel_rfl) (by kernel_rfl) (by kernel_rfl) (by kernel_rfl) (fun _ _ _ h => h) (Or.inl ⟨by rfl, ?_⟩) hC_1 ?_
        rotate_left
        · intro w hSw; (try dsimp only at hSw); obtain ⟨⟨⟨u0, u1, u2⟩, u3, u4⟩, u5, ⟨u6, u7, u8⟩, ⟨u9, u10, u11⟩⟩ := hSw; go_simp; (try with_reducible rfl)
        (try simp only [List.getElem_toArray, List.getElem_cons_succ, List.getElem_cons_zero])
        (try simp only [Act.put, List.setIfInBounds_toArray, List.set_cons_zero, List.set_cons_succ])
        refine wpTill_one (k := 17) (by kernel_rfl) rfl (fun K hK => ?_)
        (try simp only [List.getElem_toArray, List.getElem_cons_succ, List.getElem_cons_zero])
        go_simp
        refine (mulR_any tx.val tc.val _ _ _ ((unhide HXB).2.below cc_1) ((unhide HTC).below cc_1) 60 (unhide HRL) (unhide HRC) (unhide HKK)).mono ?_
        rintro e xw_2 ⟨xv_2, rfl, hv_2, hb_2⟩
        have cc_2 := below_step cc_1 hb_2
        have hC_2 : (fun w' : World => ((w'.cell? ⟨b7, 0, none⟩ = some (.slice sf.a n sf.c) ∧ w'.cell? ⟨b7, 1, none⟩ = some (.slice (some ⟨bp, op, none⟩) n sp.c) ∧ w'.cell? ⟨b7, 2, none⟩ = some (.slice sg.a n sg.c)) ∧ w'.cell? ⟨br, oR + u, none⟩ = some (.int .i64 (x0)) ∧ w'.cell? ⟨b3, 0, none⟩ = some (.slice pf.a n pf.c)) ∧ w'.cell? ⟨bp, op + r0, none⟩ = some (.slice (some ⟨bf_, of_, none⟩) n mc) ∧ (w'.cell? ⟨b6, 0, none⟩ = some (.bool tx.s) ∧ w'.cell? ⟨b6, 1, none⟩ = some (.slice tx.a1 tx.n1 tx.c1) ∧ w'.cell? ⟨b6, 2, none⟩ = some (.slice tx.a2 tx.n2 tx.c2)) ∧ (w'.cell? ⟨bf_, of_ + i * 3, none⟩ = some (.bool tc.s) ∧ w'.cell? ⟨bf_, of_ + i * 3 + 1, none⟩ = some (.slice tc.a1 tc.n1 tc.c1) ∧ w'.cell? ⟨bf_, of_ + i * 3 + 2, none⟩ = some (.slice tc.a2 tc.n2 tc.c2))) xw_2 := unhide HC8 _ cc_2
        refine hK.out _ _ (fun _ => hC_2) ?_
        clear hK K
        (try simp only [Act.put, List.setIfInBounds_toArray, List.set_cons_zero, List.set_cons_succ])
        obtain ⟨t5, rfl, r5⟩ := tri_of hv_2
        simp only [Tri.val]
        have Y := (unhide HXB).keep cc_2
        have ⟨l0, l1, l2⟩ := Y.free
        have ⟨y0, y1, y2⟩ := Y.cells _ (Below.refl _ _)
        have NB := Y.set r5
        have YB := (((below_step (unhide HBB) cc_2).setCell (p := ⟨b6, 0, none⟩) (unhide HG6) (.bool t5.s)).setCell (p := ⟨b6, 1, none⟩) (unhide HG6) (.slice t5.a1 t5.n1 t5.c1)).setCell (p := ⟨b6, 2, none⟩) (unhide HG6) (.slice t5.a2 t5.n2 t5.c2)
        obtain ⟨WA, hWA⟩ : ∃ W, ((xw_2.setCell ⟨b6, 0, none⟩ (.bool t5.s)).setCell ⟨b6, 1, none⟩ (.slice t5.a1 t5.n1 t5.c1)).setCell ⟨b6, 2, none⟩ (.slice t5.a2 t5.n2 t5.c2) = W := ⟨_, rfl⟩
        rw [hWA] at NB YB
        have HNB := hide NB
        have HYB := hide YB
        clear Y NB YB r5
        refine wpTill_one (k := 18) (by kernel_rfl) rfl (fun K hK => ?_)
        (try simp only [List.getElem_toArray, List.getElem_cons_succ, List.getElem_cons_zero])
        go_simp
        refine hK.out _ _ (fun h => absurd (h.symm.trans (by kernel_rfl)) Bool.false_ne_true) ?_
        clear hK K
        (try simp only [Act.put, List.setIfInBounds_toArray, List.set_cons_zero, List.set_cons_succ])
        refine wpTill_done (by kernel_rfl) ?_ _
        clear HC8 HTC HPK2 hC0 hC_1 hC_2 cc_1 cc_2 hb_1 hb_2 bd0 y0 y1 y2 l0 l1 l2 hWA hv_2 e0 e1 u1 u0' g5 g6
        have HXY := HNB
        have HBY := HYB
        have HTR := hide ((unhide HTR0).below (unhide HBY))
        have HC9 : Hid (∀ W, Below WA.heap.size WA W → (fun w' : World => ((w'.cell? ⟨b7, 0, none⟩ = some (.slice sf.a n sf.c) ∧ w'.cell? ⟨b7, 1, none⟩ = some (.slice sp.a n sp.c) ∧ w'.cell? ⟨b7, 2, none⟩ = some (.slice (some ⟨bg, og, none⟩) n sg.c)) ∧ w'.cell? ⟨b4, 0, none⟩ = some (.slice (some ⟨bs, os, none⟩) T sn.c) ∧ w'.cell? ⟨bs, os + t, none⟩ = some (.int .i64 ((sx : Int)))) ∧ w'.cell? ⟨bg, og + i, none⟩ = some (.slice (some ⟨bq, oq, none⟩) kk gc) ∧ (w'.cell? ⟨b6, 0, none⟩ = some (.bool t5.s) ∧ w'.cell? ⟨b6, 1, none⟩ = some (.slice t5.a1 t5.n1 t5.c1) ∧ w'.cell? ⟨b6, 2, none⟩ = some (.slice t5.a2 t5.n2 t5.c2)) ∧ (w'.cell? ⟨bq, oq + sx * 3, none⟩ = some (.bool tr.s) ∧ w'.cell? ⟨bq, oq + sx * 3 + 1, none⟩ = some (.slice tr.a1 tr.n1 tr.c1) ∧ w'.cell? ⟨bq, oq + sx * 3 + 2, none⟩ = some (.slice tr.a2 tr.n2 tr.c2))) W) := fun W hW => unhide HC90 W t5 (below_step (unhide HBY) hW) ((unhide HXY).cells W hW)
        clear HNB HYB HXB HBB
        go_wp2_with fail
        refine wp_region_till (fun w' : World => ((w'.cell? ⟨b7, 0, none⟩ = some (.slice sf.a n sf.c) ∧ w'.cell? ⟨b7, 1, none⟩ = some (.slice sp.a n sp.c) ∧ w'.cell? ⟨b7, 2, none⟩ = some (.slice (some ⟨bg, og, none⟩) n sg.c)) ∧ w'.cell? ⟨b4, 0, none⟩ = some (.slice (some ⟨bs, os, none⟩) T sn.c) ∧ w'.cell? ⟨bs, os + t, none⟩ = some (.int .i64 ((sx : Int)))) ∧ w'.cell? ⟨bg, og + i, none⟩ = some (.slice (some ⟨bq, oq, none⟩) kk gc) ∧ (w'.cell? ⟨b6, 0, none⟩ = some (.bool t5.s) ∧ w'.cell? ⟨b6, 1, none⟩ = some (.slice t5.a1 t5.n1 t5.c1) ∧ w'.cell? ⟨b6, 2, none⟩ = some (.slice t5.a2 t5.n2 t5.c2)) ∧ (w'.cell? ⟨bq, oq + sx * 3, none⟩ = some (.bool tr.s) ∧ w'.cell? ⟨bq, oq + sx * 3 + 1, none⟩ = some (.slice tr.a1 tr.n1 tr.c1) ∧ w'.cell? ⟨bq, oq + sx * 3 + 2, none⟩ = some (.slice tr.a2 tr.n2 tr.c2))) 13 (by kernel_rfl) ?_
        have bd0 : Below WA.heap.size WA WA.drew := (Below.refl _ _).drew
        obtain ⟨Wd, hWd⟩ : ∃ W, WA.drew = W := ⟨_, rfl⟩
        rw [hWd] at bd0 ⊢
        have hC0 : (fun w' : World => ((w'.cell? ⟨b7, 0, none⟩ = some (.slice sf.a n sf.c) ∧ w'.cell? ⟨b7, 1, none⟩ = some (.slice sp.a n sp.c) ∧ w'.cell? ⟨b7, 2, none⟩ = some (.slice (some ⟨bg, og, none⟩) n sg.c)) ∧ w'.cell? ⟨b4, 0, none⟩ = some (.slice (some ⟨bs, os, none⟩) T sn.c) ∧ w'.cell? ⟨bs, os + t, none⟩ = some (.int .i64 ((sx : Int)))) ∧ w'.cell? ⟨bg, og + i, none⟩ = some (.slice (some ⟨bq, oq, none⟩) kk gc) ∧ (w'.cell? ⟨b6, 0, none⟩ = some (.bool t5.s) ∧ w'.cell? ⟨b6, 1, none⟩ = some (.slice t5.a1 t5.n1 t5.c1) ∧ w'.cell? ⟨b6, 2, none⟩ = some (.slice t5.a2 t5.n2 t5.c2)) ∧ (w'.cell? ⟨bq, oq + sx * 3, none⟩ = some (.bool tr.s) ∧ w'.cell? ⟨bq, oq + sx * 3 + 1, none⟩ = some (.slice tr.a1 tr.n1 tr.c1) ∧ w'.cell? ⟨bq, oq + sx * 3 + 2, none⟩ = some (.slice tr.a2 tr.n2 tr.c2))) Wd := unhide HC9 _ bd0
        refine wpTill_take (i := 0) (v := ?_) rfl (by kernel_rfl) (by kernel_rfl) (by kernel_rfl) (by kernel_rfl) (by kernel_rfl) (by kernel_rfl) (fun _ _ _ h => h) (Or.inl ⟨by rfl, ?_⟩) hC0 ?_
        rotate_left
        · intro w hSw; (try dsimp only at hSw); obtain ⟨⟨⟨u0, u1, u2⟩, u3, u4⟩, u5, ⟨u6, u7, u8⟩, ⟨u9, u10, u11⟩⟩ := hSw; go_simp; (try with_reducible rfl)
        (try simp only [List.getElem_toArray, List.getElem_cons_succ, List.getElem_cons_zero])
        (try simp only [Act.put, List.setIfInBounds_toArray, List.set_cons_zero, List.set_cons_succ])
        refine wpTill_pure (i := 1) (v := ?_) rfl (by kernel_rfl) (by kernel_rfl) (by kernel_rfl) (by kernel_rfl) (fun _ _ _ h => h) (Or.inl ⟨by rfl, ?_⟩) (fun _ => hC0) ?_
        rotate_left
        · intro w hSw; clear hSw; go_simp; (try with_reducible rfl)
        (try simp only [List.getElem_toArray, List.getElem_cons_succ, List.getElem_cons_zero])
        (try simp only [Act.put, List.setIfInBounds_toArray, List.set_cons_zero, List.set_cons_succ])
        refine wpTill_take (i := 2) (v := ?_) rfl (by kernel_rfl) (by kernel_rfl) (by kernel_rfl) (by kernel_rfl) (by kernel_rfl) (by kernel_rfl) (fun _ _ _ h => h) (Or.inl ⟨by rfl, ?_⟩) hC0 ?_
        rotate_left
        · intro w hSw; (try dsimp only at hSw); obtain ⟨⟨⟨u0, u1, u2⟩, u3, u4⟩, u5, ⟨u6, u7, u8⟩, ⟨u9, u10, u11⟩⟩ := hSw; go_simp; (try with_reducible rfl)
        (try simp only [List.getElem_toArray, List.getElem_cons_succ, List.getElem_cons_zero])
        (try simp only [Act.put, List.setIfInBounds_toArray, List.set_cons_zero, List.set_cons_succ])
        refine wpTill_pure (i := 3) (v := ?_) rfl (by kernel_rfl) (by kernel_rfl) (by kernel_rfl) (by kernel_rfl) (fun _ _ _ h => h) (Or.inl ⟨by rfl, ?_⟩) (fun _ => hC0) ?_
        rotate_left
        · intro w hSw; clear hSw; go_simp; (try with_reducible rfl)
        (try simp only [List.getElem_toArray, List.getElem_cons_succ, List.getElem_cons_zero])
        (try simp only [Act.put, List.setIfInBounds_toArray, List.set_cons_zero, List.set_cons_succ])
        refine wpTill_pure (i := 4) (v := ?_) rfl (by kernel_rfl) (by kernel_rfl) (by kernel_rfl) (by kernel_rfl) (fun _ _ _ h => h) (Or.inl ⟨by rfl, ?_⟩) (fun _ => hC0) ?_
        rotate_left
        · intro w hSw; clear hSw; go_simp; (try with_reducible rfl)
        (try simp only [List.getElem_toArray, List.getElem_cons_succ, List.getElem_cons_zero])
        (try simp only [Act.put, List.setIfInBounds_toArray, List.set_cons_zero, List.set_cons_succ])
        refine wpTill_take (i := 5) (v := ?_) rfl (by kernel_rfl) (by kernel_rfl) (by kernel_rfl) (by kernel_rfl) (by kernel_rfl) (by kernel_rfl) (fun _ _ _ h => h) (Or.inl ⟨by rfl, ?_⟩) hC0 ?_
        rotate_left
        · intro w hSw; (try dsimp only at hSw); obtain ⟨⟨⟨u0, u1, u2⟩, u3, u4⟩, u5, ⟨u6, u7, u8⟩, ⟨u9, u10, u11⟩⟩ := hSw; go_simp; (try with_reducible rfl)
        (try simp only [List.getElem_toArray, List.getElem_cons_succ, List.getElem_cons_zero])
        (try simp only [Act.put, List.setIfInBounds_toArray, List.set_cons_zero, List.set_cons_succ])
        refine wpTill_take (i := 6) (v := ?_) rfl (by kernel_rfl) (by kernel_rfl) (by kernel_rfl) (by kernel_rfl) (by kernel_rfl) (by kernel_rfl) (fun _ _ _ h => h) (Or.inl ⟨by rfl, ?_⟩) hC0 ?_
        rotate_left
        · intro w hSw; (try dsimp only at hSw); obtain ⟨⟨⟨u0, u1, u2⟩, u3, u4⟩, u5, ⟨u6, u7, u8⟩, ⟨u9, u10, u11⟩⟩ := hSw; go_simp; (try with_reducible rfl)
        (try simp only [List.getElem_toArray, List.getElem_cons_succ, List.getElem_cons_zero])
        (try simp only [Act.put, List.setIfInBounds_toArray, List.set_cons_zero, List.set_cons_succ])
        refine wpTill_pure (i := 7) (v := ?_) rfl (by kernel_rfl) (by kernel_rfl) (by kernel_rfl) (by kernel_rfl) (fun _ _ _ h => h) (Or.inl ⟨by rfl, ?_⟩) (fun _ => hC0) ?_
        rotate_left
        · intro w hSw; clear hSw; go_simp; (try with_reducible rfl)
        (try simp only [List.getElem_toArray, List.getElem_cons_succ, List.getElem_cons_zero])
        (try simp only [Act.put, List.setIfInBounds_toArray, List.set_cons_zero, List.set_cons_succ])
        refine wpTill_pure (i := 8) (v := ?_) rfl (by kernel_rfl) (by kernel_rfl) (by kernel_rfl) (by kernel_rfl) (fun _ _ _ h => h) (Or.inl ⟨by rfl, ?_⟩) (fun _ => hC0) ?_
        rotate_left
        · intro w hSw; clear hSw; go_simp; (try with_reducible rfl)
        (try simp only [List.getElem_toArray, List.getElem_cons_succ, List.getElem_cons_zero])
        (try simp only [Act.put, List.setIfInBounds_toArray, List.set_cons_zero, List.set_cons_succ])
        refine wpTill_take (i := 9) (v := ?_) rfl (by kernel_rfl) (by kernel_rfl) (by kernel_rfl) (by kernel_rfl) (by kernel_rfl) (by kernel_rfl) (fun _ _ _ h => h) (Or.inl ⟨by rfl, ?_⟩) hC0 ?_
        rotate_left
        · intro w hSw; (try dsimp only at hSw); obtain ⟨⟨⟨u0, u1, u2⟩, u3, u4⟩, u5, ⟨u6, u7, u8⟩, ⟨u9, u10, u11⟩⟩ := hSw; go_simp; (try with_reducible rfl)
        (try simp only [List.getElem_toArray, List.getElem_cons_succ, List.getElem_cons_zero])
        (try simp only [Act.put, List.setIfInBounds_toArray, List.set_cons_zero, List.set_cons_succ])
        refine wpTill_pure (i := 10) (v := ?_) rfl (by kernel_rfl) (by kernel_rfl) (by kernel_rfl) (by kernel_rfl) (fun _ _ _ h => h) (Or.inl ⟨by rfl, ?_⟩) (fun _ => hC0) ?_
        rotate_left
        · intro w hSw; clear hSw; go_simp; (try with_reducible rfl)
        (try simp only [List.getElem_toArray, List.getElem_cons_succ, List.getElem_cons_zero])
        (try simp only [Act.put, List.setIfInBounds_toArray, List.set_cons_zero, List.set_cons_succ])
        refine wpTill_take (i := 11) (v := ?_) rfl (by kernel_rfl) (by kernel_rfl) (by kernel_rfl) (by kernel_rfl) (by kernel_rfl) (by kernel_rfl) (fun _ _ _ h => h) (Or.inl ⟨by rfl, ?_⟩) hC0 ?_
        rotate_left
        · intro w hSw; (try dsimp only at hSw); obtain ⟨⟨⟨u0, u1, u2⟩, u3, u4⟩, u5, ⟨u6, u7, u8⟩, ⟨u9, u10, u11⟩⟩ := hSw; go_simp; (try with_reducible rfl)
        (try simp only [List.getElem_toArray, List.getElem_cons_succ, List.getElem_cons_zero])
        (try simp only [Act.put, List.setIfInBounds_toArray, List.set_cons_zero, List.set_cons_succ])
        refine wpTill_one (k := 12) (by kernel_rfl) rfl (fun K hK => ?_)
        (try simp only [List.getElem_toArray, List.getElem_cons_succ, List.getElem_cons_zero])
        go_simp
        refine (mulR_any t5.val tr.val _ _ _ ((unhide HXY).2.below bd0) ((unhide HTR).below bd0) 60 (unhide HRM) (unhide HRR) (unhide HKK)).mono ?_
        rintro e xw_1 ⟨xv_1, rfl, hv_1, hb_1⟩
        have cc_1 := below_step bd0 hb_1
        have hC_1 : (fun w' : World => ((w'.cell? ⟨b7, 0, none⟩ = some (.slice sf.a n sf.c) ∧ w'.cell? ⟨b7, 1, none⟩ = some (.slice sp.a n sp.c) ∧ w'.cell? ⟨b7, 2, none⟩ = some (.slice (some ⟨bg, og, none⟩) n sg.c)) ∧ w'.cell? ⟨b4, 0, none⟩ = some (.slice (some ⟨bs, os, none⟩) T sn.c) ∧ w'.cell? ⟨bs, os + t, none⟩ = some (.int .i64 ((sx : Int)))) ∧ w'.cell? ⟨bg, og + i, none⟩ = some (.slice (some ⟨bq, oq, none⟩) kk gc) ∧ (w'.cell? ⟨b6, 0, none⟩ = some (.bool t5.s) ∧ w'.cell? ⟨b6, 1, none⟩ = some (.slice t5.a1 t5.n1 t5.c1) ∧ w'.cell? ⟨b6, 2, none⟩ = some (.slice t5.a2 t5.n2 t5.c2)) ∧ (w'.cell? ⟨bq, oq + sx * 3, none⟩ = some (.bool tr.s) ∧ w'.cell? ⟨bq, oq + sx * 3 + 1, none⟩ = some (.slice tr.a1 tr.n1 tr.c1) ∧ w'.cell? ⟨bq, oq + sx * 3 + 2, none⟩ = some (.slice tr.a2 tr.n2 tr.c2))) xw_1 := unhide HC9 _ cc_1
        refine hK.out _ _ (fun _ => hC_1) ?_
        clear hK K
        (try simp only [Act.put, List.setIfInBounds_toArray, List.set_cons_zero, List.set_cons_succ])
        obtain ⟨t6, rfl, r6⟩ := tri_of hv_1
        simp only [Tri.val]
        have Y := (unhide HXY).keep cc_1
        have ⟨l0, l1, l2⟩ := Y.free
        have ⟨y0, y1, y2⟩ := Y.cells _ (Below.refl _ _)
        have NB := Y.set r6
        have YB := (((below_step (unhide HBY) cc_1).setCell (p := ⟨b6, 0, none⟩) (unhide HG6) (.bool t6.s)).setCell (p := ⟨b6, 1, none⟩) (unhide HG6) (.slice t6.a1 t6.n1 t6.c1)).setCell (p := ⟨b6, 2, none⟩) (unhide HG6) (.slice t6.a2 t6.n2 t6.c2)
        obtain ⟨WC, hWC⟩ : ∃ W, ((xw_1.setCell ⟨b6, 0, none⟩ (.bool t6.s)).setCell ⟨b6, 1, none⟩ (.slice t6.a1 t6.n1 t6.c1)).setCell ⟨b6, 2, none⟩ (.slice t6.a2 t6.n2 t6.c2) = W := ⟨_, rfl⟩
        rw [hWC] at NB YB
        have HNC := hide NB
        have HYC := hide YB
        clear Y NB YB r6
        refine wpTill_one (k := 13) (by kernel_rfl) rfl (fun K hK => ?_)
        (try simp only [List.getElem_toArray, List.getElem_cons_succ, List.getElem_cons_zero])
        go_simp
        refine hK.out _ _ (fun h => absurd (h.symm.trans (by kernel_rfl)) Bool.false_ne_true) ?_
        clear hK K
        (try simp only [Act.put, List.setIfInBounds_toArray, List.set_cons_zero, List.set_cons_succ])
        refine wpTill_done (by kernel_rfl) ?_ _
        rw [unhide HPR] at HNC
        clear hC0 hC_1 cc_1 hb_1 bd0 y0 y1 y2 l0 l1 l2 hWC hv_1 HC9 HTR hWd
        have k4 := unhide HC4B _ (unhide HYC)
        go_wp2_with fail
        exact ⟨⟨t + 1, t6, by go_num, by omega, unhide HNC, unhide HYC⟩, by simp [intOf]; omega⟩
    · obtain rfl : t = T := by omega
      have f1 : ¬ (t : Int) < (t : Int) := by omega
      have ⟨z0, z1, z2⟩ := (unhide HXR).cells _ (Below.refl _ _)
      have Y := unhide HX _ (unhide HBR)
      have ⟨l0, l1, l2⟩ := Y.free
      have ⟨y0, y1, y2⟩ := Y.cells _ (Below.refl _ _)
      have FIN := Y.set (unhide HXR).2
      have FB := (((unhide HBW _ (unhide HBR)).setCell (p := ⟨R, 0, none⟩) (unhide HG) (.bool tx.s)).setCell (p := ⟨R, 1, none⟩) (unhide HG) (.slice tx.a1 tx.n1 tx.c1)).setCell (p := ⟨R, 2, none⟩) (unhide HG) (.slice tx.a2 tx.n2 tx.c2)
      obtain ⟨Wf, hWf⟩ : ∃ W, ((wr.setCell ⟨R, 0, none⟩ (.bool tx.s)).setCell ⟨R, 1, none⟩ (.slice tx.a1 tx.n1 tx.c1)).setCell ⟨R, 2, none⟩ (.slice tx.a2 tx.n2 tx.c2) = W := ⟨_, rfl⟩
      rw [hWf] at FIN FB
      have HFIN := hide FIN
      have HFB := hide FB
      have ⟨x0, x1, x2⟩ := FIN.cells _ (Below.refl _ _)
      clear Y FIN FB
      go_wp2
      (try simp only [Exit.inBlock, Exit.then])
      exact bodyPost_ret (v := .agg #[.bool tx.s, .slice tx.a1 tx.n1 tx.c1, .slice tx.a2 tx.n2 tx.c2]) (by simp [results, Tryd.results9, go_sem, x0, x1, x2]) rfl ⟨_, rfl, (unhide HFIN).2, unhide HFB⟩

end Go.Proofs.YtmfpoddiijpcnaaDoor
