/- Hidden states: fromFirst, seen. -/
import Derived.Test.YtfnbjenneodcdaaGreatDoorBL21
namespace Go.Proofs.YtfnbjenneodcdaaGreatDoor
open Go.RowKit Go.Sort Go.Shelf

theorem RsAt.at {w wr : World} {v : Value} {ps : List Sl} {ks : List (List Rat)} (h : RsAt w wr v ps ks) {j : Nat} (hj : j < ps.length) : ∃ g cap, v = .slice (some ⟨g, 0, none⟩) ps.length cap ∧ g < wr.heap.size ∧ w.heap.size ≤ g ∧ ps.length ≤ cap ∧ cap ≤ 9223372036854775807 ∧ wr.cell? ⟨g, j, none⟩ = some (.slice (ps[j]!).a (ps[j]!).n (ps[j]!).c) ∧ LawIs wr (ps[j]!).val ks[j]! := by
  rcases h.own.2 with ⟨rfl, e⟩ | ⟨g, cap, cur, rfl, hb, hh, hc1, hc2, hs, ht⟩
  · omega
  · refine ⟨g, cap, rfl, (Array.getElem?_eq_some_iff.1 hh).1, hb, hc1, by unfold maxLen at hc2; exact hc2, ?_, h.rat j hj⟩
    simp only [World.cell?, hh]
    have e : (cur.toList.take (ps.length * 1))[j]? = (sv ps)[j]? := by rw [ht]
    rw [List.getElem?_take_of_lt (by omega), sv_get ps j (by omega)] at e
    simpa [Sl.val] using e
theorem RsAt.rebase {w w1 wr : World} {v : Value} {ps : List Sl} {ks : List (List Rat)} (h : RsAt w1 wr v ps ks) (hb : Below w.heap.size w w1) : RsAt w wr v ps ks := by
  refine ⟨⟨h.own.1, ?_⟩, h.no, h.rat, h.ne, below_step hb h.bl⟩
  rcases h.own.2 with h2 | ⟨g, cap, cur, hv, hbg, hh, hr⟩
  · exact Or.inl h2
  · exact Or.inr ⟨g, cap, cur, hv, Nat.le_trans hb.size hbg, hh, hr⟩
/-- Rows of the call's own, all made by it. -/
def FirPost (w : World) (T n : Nat) (A : Nat → Nat → Rat) (e : Ending) (w' : World) : Prop := ∃ v ts, e = .returned v ∧ RsAt w w' v ts (mrows T n A) ∧ ts.length = T ∧ HiAt w.heap.size ts
theorem fol_RS {fs : List Rat} {P G : List (List Rat)} {x : Nat → Rat} {J : Nat} (gm : GoodH fs P G) (sm : SmHm fs P G) (hx : ∀ i, i < fs.length → RS (x i) J) {i : Nat} (hi : i < fs.length) : RS (Blf.fol (hm fs P G) x i) (8 * (J + 2) + 1) := by
  have := fpt_RS (x := x) (p := fun a k => (P[a]!)[k]!) (n := fs.length) hx (fun a k ha hk => sm.rp a k (by rw [gm.pl]; exact ha) (by rw [gm.px a ha]; exact hk)) hi fs.length (Nat.le_refl _)
  have h8 : fs.length * (J + 2) ≤ 8 * (J + 2) := Nat.mul_le_mul_right _ gm.n8
  exact this.mono (by omega)

set_option maxHeartbeats 16000000 in
set_option maxRecDepth 100000 in
set_option linter.unusedSimpArgs false in
theorem fromFirst_any (v : Value) (sn : Sl) (fs : List Rat) (P G : List (List Rat)) (s : Nat → Nat) (T JA JB : Nat) (w : World) (h : HmIs w v fs P G) (gm : GoodH fs P G) (sm : SmHm fs P G) (hs : NRow w (.slice sn.a T sn.c) T (fun i => ((s i : Nat) : Int))) (hT : T ≤ 1000) (hsk : ∀ i, i < T → s i < (G[0]!).length)
    (hR : ∀ t i, t < T → i < fs.length → RS (Blf.al (hm fs P G) s t i) JA) (hJ1 : 1 ≤ JA) (hJB : 8 * (JA + 2) + 1 + JA + 1 ≤ JB) (hJ : JB + JB + 1 ≤ KK) :
    Calls Tryz.prog 46 #[v, .slice sn.a T sn.c] w (FirPost w T fs.length (Blf.al (hm fs P G) s)) := by
  obtain ⟨ti, hti, hz0, hz1, hz2⟩ := info_parts Tryz.infoS
  have HI := hide hti
  have HZ := hide hz0
  have HSM := hide sm
  have HGM := hide gm
  have hn1 := gm.n1
  have hn8 := gm.n8
  obtain ⟨sf, sp, sg, rfl, hF, hP, hG⟩ := h
  have hfn := law_len hF
  have hpn := rows_len hP
  have hgn := rows_len hG
  obtain ⟨n, hn⟩ : ∃ n, fs.length = n := ⟨_, rfl⟩
  have HN := hide hn
  rw [hn] at hfn
  rw [gm.pl, hn] at hpn
  rw [gm.gl, hn] at hgn
  have X0 := HBox.new hF hP hG
  have b0 := alloc_below w (.cells #[.slice sf.a sf.n sf.c, .slice sp.a sp.n sp.c, .slice sg.a sg.n sg.c] 53)
  obtain ⟨W0, hW0⟩ : ∃ W, w.alloc (.cells #[.slice sf.a sf.n sf.c, .slice sp.a sp.n sp.c, .slice sg.a sg.n sg.c] 53) = W := ⟨_, rfl⟩
  obtain ⟨bx, hbx⟩ : ∃ b, w.heap.size = b := ⟨_, rfl⟩
  rw [hW0] at X0 b0
  rw [hbx] at X0
  have HX0 := hide X0
  have HB0 := hide b0
  have HCH : Hid (∀ W, Below W0.heap.size W0 W → (fun w' : World => w'.cell? ⟨bx, 0, none⟩ = some (.slice sf.a n sf.c) ∧ w'.cell? ⟨bx, 1, none⟩ = some (.slice sp.a n sp.c) ∧ w'.cell? ⟨bx, 2, none⟩ = some (.slice sg.a n sg.c)) W) := fun W hW => by
    have h1 := (unhide HX0).cells W hW
    rw [hfn, hpn, hgn] at h1
    exact h1
  have HIS : Hid (∀ W, Below W0.heap.size W0 W → HmIs W (.agg #[.slice sf.a n sf.c, .slice sp.a n sp.c, .slice sg.a n sg.c]) fs P G) := fun W hW => by
    have h1 := (unhide HX0).hm.below hW
    unfold hmval at h1
    rw [hfn, hpn, hgn] at h1
    exact h1
  have ⟨c0, c1, c2⟩ := unhide HCH _ (Below.refl _ _)
  have HFN := hide hfn
  have HPN := hide hpn
  have HGN := hide hgn
  unfold hmval
  rw [hfn, hpn, hgn] at hW0 ⊢
  clear hF hP hG X0 b0 hn hfn hpn hgn
  rw [unhide HN] at hn1 hn8 hR ⊢
  obtain ⟨A, hA_⟩ : ∃ A, Blf.al (hm fs P G) s = A := ⟨_, rfl⟩
  have HA0 : Hid (∀ i, A 0 i = Blf.wsg (hm fs P G) (fun k => fs[k]!) (s 0) i) := fun i => by rw [← hA_]; rfl
  have HAS : Hid (∀ t i, A (t + 1) i = Blf.wsg (hm fs P G) (Blf.fol (hm fs P G) (A t)) (s (t + 1)) i) := fun t i => by rw [← hA_]; rfl
  rw [hA_] at hR ⊢
  have HR := hide hR
  have HSK := hide hsk
  have HJ := hide hJ
  have HJ1 := hide hJ1
  have HJB := hide hJB
  have HSN := hide (hs.below (unhide HB0))
  have hsn : T ≤ sn.c ∧ sn.c ≤ 9223372036854775807 := by
    obtain ⟨a, c, e, h1, h2, _⟩ := hs
    have e1 : sn.c = c := by injection e
    rw [e1]; exact ⟨h1, h2⟩
  obtain ⟨hsn1, hsn2⟩ := hsn
  clear hs hsk hJ hJ1 hJB hR hA_ sm gm hti hz0
  go_enter Tryz.func46, Tryz.ntmps46
  go_wp2_with fail
  clear hW0 hbx c0 c1 c2
  go_loopw [5, 11] (fun vo vt wr => ∃ (t : Nat) (ts : List Sl), vt = .int .i64 (t : Int) ∧ t ≤ T ∧ ts.length = t ∧ RsAt W0 wr vo ts (mrows T n A) ∧ HiAt W0.heap.size ts) (fun _ vt _ => T - (intOf vt).toNat)
  case atStart => exact ⟨0, [], rfl, Nat.zero_le _, rfl, RsAt.start W0 _ _ (Below.refl _ _), fun j hj => absurd hj (Nat.not_lt_zero _)⟩
  case round =>
    obtain ⟨t, ts, rfl, ht, hts, TT, hHi⟩ := hrel
    have HHI := hide hHi
    clear hHi
    by_cases hlt : t < T
    · have f1 : (t : Int) < (T : Int) := by omega
      have f0 : (0 : Int) ≤ (t : Int) := by omega
      obtain ⟨sa_, sc_, es, _, _, s3⟩ := (unhide HSN).below TT.bl
      obtain ⟨bs, os, eas, hbs, hcs⟩ := s3 (by omega)
      have esa : sn.a = some ⟨bs, os, none⟩ := by injection es with e1; rw [e1, eas]
      obtain ⟨sx, hsx⟩ : ∃ x, s t = x := ⟨_, rfl⟩
      have ks : wr.cell? ⟨bs, os + t, none⟩ = some (.int .i64 ((s t : Nat) : Int)) := hcs t hlt
      rw [hsx] at ks
      have hsk : sx < (G[0]!).length := by rw [← hsx]; exact unhide HSK t hlt
      have ⟨d0, d1, d2⟩ := unhide HCH _ TT.bl
      have HOW := hide (ownsS_block TT.own)
      have epq : (mrows T n A)[ts.length]! = row (A t) n := by rw [hts]; exact mrows_get hlt
      have HE := hide epq
      have HTS := hide hts
      have HBL := hide TT.bl
      have HT0 := hide TT
      rw [esa]
      by_cases ht0 : t = 0
      · as_aux_lemma =>
        have e0 : ¬ 0 < t := by omega
        have e0' : decide (0 < t) = false := decide_eq_false e0
        have HWS : Hid (Calls Tryz.prog 84 #[.agg #[.slice sf.a n sf.c, .slice sp.a n sp.c, .slice sg.a n sg.c], .slice sf.a n sf.c, .int .i64 (sx : Int)] wr (RowPost wr (row (A t) n))) := by
          have := withSign_any (.agg #[.slice sf.a n sf.c, .slice sp.a n sp.c, .slice sg.a n sg.c]) sf fs P G fs sx JB wr (unhide HIS _ (unhide HBL)) (unhide HGM) (unhide HSM) ((unhide HX0).2.1.below (unhide HBL)) rfl hsk (fun i hi => ((unhide HSM).rf i hi).mono (by have := unhide HJB; omega)) (by have := unhide HJB; omega) (unhide HJ)
          rw [unhide HN] at this
          rw [show row (A t) n = row (Blf.wsg (hm fs P G) (fun i => fs[i]!) sx) n from row_congr (fun i _ => by rw [ht0, unhide HA0, ← hsx, ht0])]
          exact this
        have HT1 := HT0
        have HWRC : Hid (wr.heap.size ≤ wr.heap.size) := Nat.le_refl _
        have HW0C : Hid (W0.heap.size ≤ wr.heap.size) := (unhide HBL).size
        clear TT s3 es eas esa hcs hsx epq hts hbs ht0 HT0 e0
        go_wp2_with fail
        clear ks d0 d1 d2 e0'
        refine (unhide HWS).mono ?_
        rintro e w2 ⟨gt, nt, rfl, hnt, hge, hl2, hb2⟩
        rw [row_length] at hnt
        obtain rfl := hnt.symm
        have bL := alloc_below w2 (.cells #[.slice (some ⟨gt, 0, none⟩) n n] 41)
        have T2 := ((unhide HT1).keep hb2).keep bL
        have hm3 : LawIs (w2.alloc (.cells #[.slice (some ⟨gt, 0, none⟩) n n] 41)) (Sl.val (some ⟨gt, 0, none⟩, n, n)) (mrows T n A)[ts.length]! := by rw [unhide HE]; exact hl2.below bL
        have hlen24 : (ts.length + 1) * 24 ≤ 140737488355328 := by have := unhide HTS; omega
        have hlen63 : ts.length + 1 ≤ maxLen := by have := unhide HTS; unfold maxLen; omega
        have hbase : W0.heap.size ≤ (w2.alloc (.cells #[.slice (some ⟨gt, 0, none⟩) n n] 41)).heap.size := T2.bl.size
        have hsz2 : (w2.alloc (.cells #[.slice (some ⟨gt, 0, none⟩) n n] 41)).heap.size = w2.heap.size + 1 := by rw [alloc_heap, Array.size_push]
        have HT2 := hide T2
        have HM3 := hide hm3
        have HBA := hide hbase
        have HSZ := hide hsz2
        have HL24 := hide hlen24
        have HL63 := hide hlen63
        have HGE := hide hge
        clear T2 hm3 hbase hsz2 hlen24 hlen63 hb2 HT1 HWS bL hl2 hge
        go_wp2_with (at_builtin; go_loud (refine wpList_append_sl _ rfl _ _ _ rfl W0.heap.size 41 ti 24 Tryz.underlying51 (unhide HI) (unhide HZ) hz1 hz2 _ ts.length (sv ts) rfl (unhide HT2).own (unhide HT2).no ⟨w2.heap.size, 0, none⟩ 1 1 [Sl.val (some ⟨gt, 0, none⟩, n, n)] rfl rfl (news_sl w2 (some ⟨gt, 0, none⟩, n, n) _) (sv_one _) (sv_notWord _) (by decide) (unhide HL63) (unhide HL24) (unhide HBA) (w2.heap.size + 1) (unhide HSZ) ?_; intro g4 cap4 w4 hown4 hgrow hat hlt4 hno4))
        have FIN := hide ((unhide HT2).push (p := (some ⟨gt, 0, none⟩, n, n)) (unhide HM3) (fun _ ad e he => by
          have h1 := (unhide HOW _ he).2
          have h2 := unhide HGE
          have e : some (⟨gt, 0, none⟩ : Addr) = some ad := e
          injection e with e
          rw [← e] at h1
          have := unhide HWRC
          simp only at h1
          omega) hown4 hgrow (by rw [unhide HSZ]; exact hat) hno4)
        clear hown4 hgrow hat hno4 HT2 HM3
        go_wp2_with fail
        exact ⟨⟨t + 1, ts ++ [(some ⟨gt, 0, none⟩, n, n)], by go_num, hlt, by rw [List.length_append, unhide HTS]; rfl, unhide FIN, (unhide HHI).push (fun ad e => by
          have h2 := unhide HGE
          have e : some (⟨gt, 0, none⟩ : Addr) = some ad := e
          injection e with e
          rw [← e]
          have := unhide HWRC
          have := unhide HW0C
          show W0.heap.size ≤ gt
          omega)⟩, by simp [intOf]; omega⟩
      · as_aux_lemma =>
        obtain ⟨u, hu⟩ : ∃ u, t = u + 1 := ⟨t - 1, by omega⟩
        have e0 : 0 < t := by omega
        have e0' : decide (0 < t) = true := decide_eq_true e0
        have e1 : IntKind.i64.wrap ((t : Int) - 1) = (u : Int) := by rw [IntKind.wrap_i64]; omega
        have u1 : (u : Int) < (ts.length : Int) := by omega
        have u0' : (0 : Int) ≤ (u : Int) := by omega
        have hut : u < ts.length := by omega
        obtain ⟨g, cap, hvo, hgl, hgw, hcp1, hcp2, hgc, hlu⟩ := TT.at hut
        rw [mrows_get (by omega)] at hlu
        obtain ⟨lp, hlp⟩ : ∃ l, ts[u]! = l := ⟨_, rfl⟩
        rw [hlp] at hgc hlu
        have hln := law_len hlu
        rw [row_length] at hln
        rw [hln] at hgc
        have HC7 : Hid (∀ W, Below wr.heap.size wr W → (fun w' : World => (w'.cell? ⟨bx, 0, none⟩ = some (.slice sf.a n sf.c) ∧ w'.cell? ⟨bx, 1, none⟩ = some (.slice sp.a n sp.c) ∧ w'.cell? ⟨bx, 2, none⟩ = some (.slice sg.a n sg.c)) ∧ w'.cell? ⟨g, u, none⟩ = some (.slice lp.a n lp.c)) W) := fun W hW => ⟨unhide HCH _ (below_step (unhide HBL) hW), by rw [hW.cell (p := ⟨g, u, none⟩) hgl]; exact hgc⟩
        have HFO : Hid (∀ W, Below wr.heap.size wr W → Calls Tryz.prog 83 #[.agg #[.slice sf.a n sf.c, .slice sp.a n sp.c, .slice sg.a n sg.c], .slice lp.a n lp.c] W (RowPost W (row (Blf.fol (hm fs P G) (A u)) n))) := fun W hW => by
          have := following_any (.agg #[.slice sf.a n sf.c, .slice sp.a n sp.c, .slice sg.a n sg.c]) lp fs P G (row (A u) n) JA JB W (unhide HIS _ (below_step (unhide HBL) hW)) (unhide HGM) (unhide HSM) (hlu.below hW) (by rw [row_length]; exact (unhide HN).symm) (fun i hi => by
            rw [unhide HN] at hi
            rw [row_get hi]; exact unhide HR u i (by omega) hi) (unhide HJ1) (unhide HJB) (unhide HJ)
          rw [unhide HN] at this
          rw [show row (Blf.fol (hm fs P G) (A u)) n = row (Blf.fol (hm fs P G) (fun i => (row (A u) n)[i]!)) n from row_congr (fun i _ => by
            unfold Blf.fol
            refine Bth.ps_congr _ (fun j hj => ?_)
            have hj : j < n := by rw [← unhide HN]; exact hj
            show A u j * _ = (row (A u) n)[j]! * _
            rw [row_get hj])]
          exact this
        have HFS : Hid (∀ i, i < n → RS (Blf.fol (hm fs P G) (A u) i) JB) := fun i hi => (fol_RS (unhide HGM) (unhide HSM) (fun i hi => unhide HR u i (by omega) (by rw [← unhide HN]; exact hi)) (by rw [unhide HN]; exact hi)).mono (by have := unhide HJB; omega)
        have HAE : Hid (row (A t) n = row (Blf.wsg (hm fs P G) (Blf.fol (hm fs P G) (A u)) sx) n) := row_congr (fun i _ => by rw [hu, unhide HAS, ← hu, hsx])
        have HHSK := hide hsk
        rw [hvo] at HT0 HOW ⊢
        clear hvo TT s3 es eas esa hcs hsx epq hbs ht0 hlu hln hgl hgw hgc hlp hut hu
        clear hts
        go_wp2_with fail
        clear ks d0 d1 d2 e0 e0'
        refine wp_region_hold (fun w' : World => (w'.cell? ⟨bx, 0, none⟩ = some (.slice sf.a n sf.c) ∧ w'.cell? ⟨bx, 1, none⟩ = some (.slice sp.a n sp.c) ∧ w'.cell? ⟨bx, 2, none⟩ = some (.slice sg.a n sg.c)) ∧ w'.cell? ⟨g, u, none⟩ = some (.slice lp.a n lp.c)) (by kernel_rfl) ?_
        have bd0 : Below wr.heap.size wr wr.drew := (Below.refl _ _).drew
        have hC0 : (fun w' : World => (w'.cell? ⟨bx, 0, none⟩ = some (.slice sf.a n sf.c) ∧ w'.cell? ⟨bx, 1, none⟩ = some (.slice sp.a n sp.c) ∧ w'.cell? ⟨bx, 2, none⟩ = some (.slice sg.a n sg.c)) ∧ w'.cell? ⟨g, u, none⟩ = some (.slice lp.a n lp.c)) wr.drew := unhide HC7 _ bd0
        refine wpHold_take (i := 0) (v := ?_) rfl (by kernel_rfl) (by kernel_rfl) (by kernel_rfl) (fun _ _ _ h => h) (Or.inl ⟨by rfl, ?_⟩) hC0 ?_
        rotate_left
        · intro w hSw; (try dsimp only at hSw); obtain ⟨⟨u0, u1, u2⟩, u3⟩ := hSw; go_simp; (try with_reducible rfl)
        (try simp only [List.getElem_toArray, List.getElem_cons_succ, List.getElem_cons_zero])
        (try simp only [Act.put, List.setIfInBounds_toArray, List.set_cons_zero, List.set_cons_succ])
        refine wpHold_take (i := 1) (v := ?_) rfl (by kernel_rfl) (by kernel_rfl) (by kernel_rfl) (fun _ _ _ h => h) (Or.inl ⟨by rfl, ?_⟩) hC0 ?_
        rotate_left
        · intro w hSw; clear hSw; go_simp; (try with_reducible rfl)
        (try simp only [List.getElem_toArray, List.getElem_cons_succ, List.getElem_cons_zero])
        (try simp only [Act.put, List.setIfInBounds_toArray, List.set_cons_zero, List.set_cons_succ])
        refine wpHold_take (i := 2) (v := ?_) rfl (by kernel_rfl) (by kernel_rfl) (by kernel_rfl) (fun _ _ _ h => h) (Or.inl ⟨by rfl, ?_⟩) hC0 ?_
        rotate_left
        · intro w hSw; clear hSw; go_simp; (try with_reducible rfl)
        (try simp only [List.getElem_toArray, List.getElem_cons_succ, List.getElem_cons_zero])
        (try simp only [Act.put, List.setIfInBounds_toArray, List.set_cons_zero, List.set_cons_succ])
        refine wpHold_take (i := 3) (v := ?_) rfl (by kernel_rfl) (by kernel_rfl) (by kernel_rfl) (fun _ _ _ h => h) (Or.inl ⟨by rfl, ?_⟩) hC0 ?_
        rotate_left
        · intro w hSw; clear hSw; go_simp; (try with_reducible rfl)
        (try simp only [List.getElem_toArray, List.getElem_cons_succ, List.getElem_cons_zero])
        (try simp only [Act.put, List.setIfInBounds_toArray, List.set_cons_zero, List.set_cons_succ])
        refine wpHold_take (i := 4) (v := ?_) rfl (by kernel_rfl) (by kernel_rfl) (by kernel_rfl) (fun _ _ _ h => h) (Or.inl ⟨by rfl, ?_⟩) hC0 ?_
        rotate_left
        · intro w hSw; clear hSw; go_simp; (try with_reducible rfl)
        (try simp only [List.getElem_toArray, List.getElem_cons_succ, List.getElem_cons_zero])
        (try simp only [Act.put, List.setIfInBounds_toArray, List.set_cons_zero, List.set_cons_succ])
        refine wpHold_take (i := 5) (v := ?_) rfl (by kernel_rfl) (by kernel_rfl) (by kernel_rfl) (fun _ _ _ h => h) (Or.inl ⟨by rfl, ?_⟩) hC0 ?_
        rotate_left
        · intro w hSw; (try dsimp only at hSw); obtain ⟨⟨u0, u1, u2⟩, u3⟩ := hSw; go_simp; (try with_reducible rfl)
        (try simp only [List.getElem_toArray, List.getElem_cons_succ, List.getElem_cons_zero])
        (try simp only [Act.put, List.setIfInBounds_toArray, List.set_cons_zero, List.set_cons_succ])
        refine wpHold_one (k := 6) (by kernel_rfl) rfl (fun K hK => ?_)
        (try simp only [List.getElem_toArray, List.getElem_cons_succ, List.getElem_cons_zero])
        go_simp
        refine (unhide HFO _ bd0).mono ?_
        rintro e xw_1 ⟨gc, nc, rfl, hnc, hgec, hlc, hb_1⟩
        rw [row_length] at hnc
        obtain rfl := hnc.symm
        have cc_1 := below_step bd0 hb_1
        have hC_1 : (fun w' : World => (w'.cell? ⟨bx, 0, none⟩ = some (.slice sf.a n sf.c) ∧ w'.cell? ⟨bx, 1, none⟩ = some (.slice sp.a n sp.c) ∧ w'.cell? ⟨bx, 2, none⟩ = some (.slice sg.a n sg.c)) ∧ w'.cell? ⟨g, u, none⟩ = some (.slice lp.a n lp.c)) xw_1 := unhide HC7 _ cc_1
        refine hK.out _ _ hC_1 ?_
        clear hK K
        (try simp only [Act.put, List.setIfInBounds_toArray, List.set_cons_zero, List.set_cons_succ])
        refine wpHold_one (k := 7) (by kernel_rfl) rfl (fun K hK => ?_)
        (try simp only [List.getElem_toArray, List.getElem_cons_succ, List.getElem_cons_zero])
        go_simp
        refine hK.out _ _ hC_1 ?_
        clear hK K
        (try simp only [Act.put, List.setIfInBounds_toArray, List.set_cons_zero, List.set_cons_succ])
        refine wpHold_done (by kernel_rfl) ?_ _
        have HT1 : Hid (RsAt W0 xw_1 (.slice (some ⟨g, 0, none⟩) ts.length cap) ts (mrows T n A)) := (unhide HT0).keep cc_1
        have HBX := hide (below_step (unhide HBL) cc_1)
        have HWS : Hid (Calls Tryz.prog 84 #[.agg #[.slice sf.a n sf.c, .slice sp.a n sp.c, .slice sg.a n sg.c], .slice (some ⟨gc, 0, none⟩) n n, .int .i64 (sx : Int)] xw_1 (RowPost xw_1 (row (A t) n))) := by
          have := withSign_any (.agg #[.slice sf.a n sf.c, .slice sp.a n sp.c, .slice sg.a n sg.c]) (some ⟨gc, 0, none⟩, n, n) fs P G (row (Blf.fol (hm fs P G) (A u)) n) sx JB xw_1 (unhide HIS _ (unhide HBX)) (unhide HGM) (unhide HSM) hlc (by rw [row_length]; exact (unhide HN).symm) (unhide HHSK) (fun i hi => by
            rw [unhide HN] at hi
            rw [row_get hi]; exact unhide HFS i hi) (by have := unhide HJB; omega) (unhide HJ)
          rw [unhide HN] at this
          rw [unhide HAE, show row (Blf.wsg (hm fs P G) (Blf.fol (hm fs P G) (A u)) sx) n = row (Blf.wsg (hm fs P G) (fun i => (row (Blf.fol (hm fs P G) (A u)) n)[i]!) sx) n from row_congr (fun i hi => by
            show _ = (row (Blf.fol (hm fs P G) (A u)) n)[i]! * _
            rw [row_get hi]; rfl)]
          exact this
        have HWRC : Hid (wr.heap.size ≤ xw_1.heap.size) := cc_1.size
        have HW0C : Hid (W0.heap.size ≤ wr.heap.size) := (unhide HBL).size
        have ⟨d0, d1, d2⟩ := unhide HCH _ (unhide HBX)
        clear hC0 hC_1 cc_1 hb_1 bd0 HC7 HFO hlc hgec HFS HAE HHSK HT0 HBX e1 u1 u0'
        go_wp2_with fail
        clear d0 d1 d2
        refine (unhide HWS).mono ?_
        rintro e w2 ⟨gt, nt, rfl, hnt, hge, hl2, hb2⟩
        rw [row_length] at hnt
        obtain rfl := hnt.symm
        have bL := alloc_below w2 (.cells #[.slice (some ⟨gt, 0, none⟩) n n] 41)
        have T2 := ((unhide HT1).keep hb2).keep bL
        have hm3 : LawIs (w2.alloc (.cells #[.slice (some ⟨gt, 0, none⟩) n n] 41)) (Sl.val (some ⟨gt, 0, none⟩, n, n)) (mrows T n A)[ts.length]! := by rw [unhide HE]; exact hl2.below bL
        have hlen24 : (ts.length + 1) * 24 ≤ 140737488355328 := by have := unhide HTS; omega
        have hlen63 : ts.length + 1 ≤ maxLen := by have := unhide HTS; unfold maxLen; omega
        have hbase : W0.heap.size ≤ (w2.alloc (.cells #[.slice (some ⟨gt, 0, none⟩) n n] 41)).heap.size := T2.bl.size
        have hsz2 : (w2.alloc (.cells #[.slice (some ⟨gt, 0, none⟩) n n] 41)).heap.size = w2.heap.size + 1 := by rw [alloc_heap, Array.size_push]
        have HT2 := hide T2
        have HM3 := hide hm3
        have HBA := hide hbase
        have HSZ := hide hsz2
        have HL24 := hide hlen24
        have HL63 := hide hlen63
        have HGE := hide hge
        clear T2 hm3 hbase hsz2 hlen24 hlen63 hb2 HT1 HWS bL hl2 hge
        go_wp2_with (at_builtin; go_loud (refine wpList_append_sl _ rfl _ _ _ rfl W0.heap.size 41 ti 24 Tryz.underlying51 (unhide HI) (unhide HZ) hz1 hz2 _ ts.length (sv ts) rfl (unhide HT2).own (unhide HT2).no ⟨w2.heap.size, 0, none⟩ 1 1 [Sl.val (some ⟨gt, 0, none⟩, n, n)] rfl rfl (news_sl w2 (some ⟨gt, 0, none⟩, n, n) _) (sv_one _) (sv_notWord _) (by decide) (unhide HL63) (unhide HL24) (unhide HBA) (w2.heap.size + 1) (unhide HSZ) ?_; intro g4 cap4 w4 hown4 hgrow hat hlt4 hno4))
        have FIN := hide ((unhide HT2).push (p := (some ⟨gt, 0, none⟩, n, n)) (unhide HM3) (fun _ ad e he => by
          have h1 := (unhide HOW _ he).2
          have h2 := unhide HGE
          have e : some (⟨gt, 0, none⟩ : Addr) = some ad := e
          injection e with e
          rw [← e] at h1
          have := unhide HWRC
          simp only at h1
          omega) hown4 hgrow (by rw [unhide HSZ]; exact hat) hno4)
        clear hown4 hgrow hat hno4 HT2 HM3
        go_wp2_with fail
        exact ⟨⟨t + 1, ts ++ [(some ⟨gt, 0, none⟩, n, n)], by go_num, hlt, by rw [List.length_append, unhide HTS]; rfl, unhide FIN, (unhide HHI).push (fun ad e => by
          have h2 := unhide HGE
          have e : some (⟨gt, 0, none⟩ : Addr) = some ad := e
          injection e with e
          rw [← e]
          have := unhide HWRC
          have := unhide HW0C
          show W0.heap.size ≤ gt
          omega)⟩, by simp [intOf]; omega⟩
    · obtain rfl : t = T := by omega
      have f1 : ¬ (t : Int) < (t : Int) := by omega
      have HRB := hide (TT.rebase (unhide HB0))
      have HTS := hide hts
      have HH2 : Hid (HiAt w.heap.size ts) := fun j hj ad e => Nat.le_trans (unhide HB0).size (unhide HHI j hj ad e)
      clear TT hts
      go_wp2
      (try simp only [Exit.inBlock, Exit.then])
      exact bodyPost_ret (v := u5) (by simp [results, Tryz.results46, go_sem]) rfl ⟨_, ts, rfl, unhide HRB, unhide HTS, unhide HH2⟩

end Go.Proofs.YtfnbjenneodcdaaGreatDoor
