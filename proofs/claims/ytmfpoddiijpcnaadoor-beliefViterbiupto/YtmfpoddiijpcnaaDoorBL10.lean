/- BeliefViterbi's walk. -/
import Derived.Test.YtmfpoddiijpcnaaDoorBL9
import Derived.Test.YtmfpoddiijpcnaaDoorBL7
namespace Go.Proofs.YtmfpoddiijpcnaaDoor
open Go.RowKit Go.Sort Go.Shelf

theorem pkv_small {k n : Nat} (h : k < n) (hn : n ≤ 1000) : pkv (k : Int) n = k := by
  unfold pkv
  have e : IntKind.u64.wrap (k : Int) = (k : Int) := by rw [IntKind.wrap_u64]; omega
  rw [e]
  have : (k : Int) % (n : Int) = (k : Int) := Int.emod_eq_of_lt (by omega) (by omega)
  rw [this]; rfl

set_option maxHeartbeats 16000000 in
set_option maxRecDepth 100000 in
set_option linter.unusedSimpArgs false in
theorem beliefViterbi_any (v vs vr : Value) (ps : List (Int × Int)) (pp pg : List (List (Int × Int))) (T L : Nat) (f g : Nat → Int) (w : World) (htab : Tab w) (h : PHmIs w v ps pp pg) (sp_ : SmP pp) (sg_ : SmP pg) (hps : ps.length ≤ 1048576) (hs : NRow w vs T f) (hr : NRow w vr L g) :
    Calls Tryd.prog 3 #[v, vs, vr] w fun e w' => e = .returned (.bool true) ∧ Below w.heap.size w w' := by
  have HS := hide hs
  have HR := hide hr
  obtain ⟨as_, cs_, rfl, hs1, hs2, hs3⟩ := hs
  obtain ⟨ar_, cr_, rfl, hr1, hr2, hr3⟩ := hr
  clear hs3 hr3
  have KKe : KK = 1099511627776 := rfl
  have HTB := hide htab
  have HPC := hide h
  have HSP := hide sp_
  have HSG := hide sg_
  have HPS := hide hps
  obtain ⟨sf, sp, sg, rfl, hF, hP, hG⟩ := h
  have hfn := pairs_len hF
  have hpn := prows_len hP
  have hgn := prows_len hG
  obtain ⟨nf, hnf⟩ : ∃ n, ps.length = n := ⟨_, rfl⟩
  obtain ⟨np, hnp⟩ : ∃ n, pp.length = n := ⟨_, rfl⟩
  obtain ⟨ng, hng⟩ : ∃ n, pg.length = n := ⟨_, rfl⟩
  rw [hnf] at hfn
  rw [hnp] at hpn
  rw [hng] at hgn
  have HNF := hide hnf
  have HNP := hide hnp
  have HNG := hide hng
  have HPV : Hid (hmval sf sp sg = .agg #[.slice sf.a nf sf.c, .slice sp.a np sp.c, .slice sg.a ng sg.c]) := by show hmval sf sp sg = _; unfold hmval; rw [hfn, hpn, hgn]
  rw [unhide HPV] at HPC ⊢
  have hPv : sp.val = .slice sp.a np sp.c := by show Value.slice sp.a sp.n sp.c = _; rw [hpn]
  have hGv : sg.val = .slice sg.a ng sg.c := by show Value.slice sg.a sg.n sg.c = _; rw [hgn]
  rw [hPv] at hP
  rw [hGv] at hG
  have b0 := alloc_below w (.cells #[.slice sf.a nf sf.c, .slice sp.a np sp.c, .slice sg.a ng sg.c] 25)
  have n0 := heap_alloc_new w (.cells #[.slice sf.a nf sf.c, .slice sp.a np sp.c, .slice sg.a ng sg.c] 25)
  obtain ⟨W0, hW0⟩ : ∃ W, w.alloc (.cells #[.slice sf.a nf sf.c, .slice sp.a np sp.c, .slice sg.a ng sg.c] 25) = W := ⟨_, rfl⟩
  obtain ⟨b3, hb3⟩ : ∃ b, w.heap.size = b := ⟨_, rfl⟩
  rw [hW0] at b0 n0
  rw [hb3] at n0
  have nf63 : nf ≤ 9223372036854775807 := by rw [← hnf]; omega
  have b1 := alloc_below W0 (.cells #[.slice as_ T cs_] 26)
  have n1 := heap_alloc_new W0 (.cells #[.slice as_ T cs_] 26)
  obtain ⟨W1, hW1⟩ : ∃ W, W0.alloc (.cells #[.slice as_ T cs_] 26) = W := ⟨_, rfl⟩
  obtain ⟨b4, hb4⟩ : ∃ b, W0.heap.size = b := ⟨_, rfl⟩
  rw [hW1] at b1 n1
  rw [hb4] at n1
  have HN3 := hide (heap_kept n0 b1)
  have HN4 := hide n1
  have HCB : Hid (∀ W, Below W1.heap.size W1 W → (W.cell? ⟨b3, 0, none⟩ = some (.slice sf.a nf sf.c) ∧ W.cell? ⟨b3, 1, none⟩ = some (.slice sp.a np sp.c) ∧ W.cell? ⟨b3, 2, none⟩ = some (.slice sg.a ng sg.c)) ∧ W.cell? ⟨b4, 0, none⟩ = some (.slice as_ T cs_)) := fun W hW => by
    have h3 := heap_kept (unhide HN3) hW
    have h4 := heap_kept (unhide HN4) hW
    simp [World.cell?, h3, h4]
  have ⟨⟨i0, i1, i2⟩, i3⟩ := unhide HCB _ (Below.refl _ _)
  have HB1 := hide (below_step b0 b1)
  have HWN := hide (wide_any (.slice sp.a np sp.c) pp 30 W1 (hP.below (unhide HB1)) (unhide HSP) (by decide))
  have HWG : Hid (∀ W, Below W1.heap.size W1 W → Calls Tryd.prog 4 #[.slice sg.a ng sg.c, .int .i64 ((30 : Nat) : Int)] W (AskPost W (WideP pg 30))) := fun W hW => wide_any (.slice sg.a ng sg.c) pg 30 W ((hG.below (unhide HB1)).below hW) (unhide HSG) (by decide)
  clear hF hP hG hfn hpn hgn hnf hnp hng hPv hGv b0 n0 b1 n1 sp_ sg_ hps htab
  go_enter Tryd.func3, Tryd.ntmps3
  go_wp2_with fail
  clear hW0 hb3 hW1 hb4 i0 i1 i2 i3
  refine (unhide HWN).mono ?_
  rintro e w1 ⟨(⟨hw, rfl⟩ | ⟨hw, rfl⟩), hb1⟩
  · have HB2 := hide (below_step (unhide HB1) hb1)
    clear hw hb1 HWN
    go_wp2
    go_ret
    exact ⟨rfl, unhide HB2⟩
  have HTP : Hid (tot pp ≤ 30) := Nat.le_of_not_lt hw
  have H1 := hide hb1
  have ⟨⟨i0, i1, i2⟩, i3⟩ := unhide HCB _ hb1
  have HWG1 := hide (unhide HWG w1 hb1)
  clear hw hb1 HWN HWG
  go_wp2_with fail
  clear i0 i1 i2 i3
  refine (unhide HWG1).mono ?_
  rintro e w2 ⟨(⟨hw, rfl⟩ | ⟨hw, rfl⟩), hb2⟩
  · have HB2 := hide (below_step (below_step (unhide HB1) (unhide H1)) hb2)
    clear hw hb2 HWG1
    go_wp2
    go_ret
    exact ⟨rfl, unhide HB2⟩
  have HTG : Hid (tot pg ≤ 30) := Nat.le_of_not_lt hw
  have H2 := hide (below_step (unhide H1) hb2)
  have HB2 := hide (below_step (unhide HB1) (unhide H2))
  have ⟨⟨i0, i1, i2⟩, i3⟩ := unhide HCB _ (unhide H2)
  clear hw hb2 HWG1 H1
  by_cases h8 : (8 : Int) < (T : Int)
  · go_wp2
    go_ret
    exact ⟨rfl, unhide HB2⟩
  by_cases h4 : (4 : Int) < (nf : Int)
  · go_wp2
    go_ret
    exact ⟨rfl, unhide HB2⟩
  by_cases hLT : (L : Int) < (T : Int)
  · go_wp2
    go_ret
    exact ⟨rfl, unhide HB2⟩
  by_cases hn0 : nf = 0
  · have e0 : ((nf : Int) == 0) = true := by rw [hn0]; rfl
    clear hn0
    go_wp2
    go_ret
    exact ⟨rfl, unhide HB2⟩
  have e0 : ((nf : Int) == 0) = false := by rw [beq_eq_false_iff_ne]; omega
  have HPB := hide (pbelief_any _ ps pp pg w2 ((unhide HPC).below (unhide HB2)) (unhide HSP) (unhide HSG) (unhide HPS))
  go_wp2_with fail
  clear i0 i1 i2 i3 e0
  refine (unhide HPB).mono ?_
  rintro e w3 ⟨v3, rfl, hv3, hb3⟩
  have hSm : SmHm (pqs ps) (pqss pp) (pqss pg) := smHm_of (unhide HPC) (unhide HTP) (unhide HTG) (by have := unhide HNF; omega)
  have hfl : (pqs ps).length = nf := by rw [pqs_length]; exact unhide HNF
  have hpl : (pqss pp).length = np := by rw [pqss_length]; exact unhide HNP
  have hgl : (pqss pg).length = ng := by rw [pqss_length]; exact unhide HNG
  obtain ⟨fs, ef⟩ : ∃ x, pqs ps = x := ⟨_, rfl⟩
  obtain ⟨P, eP⟩ : ∃ x, pqss pp = x := ⟨_, rfl⟩
  obtain ⟨G, eG⟩ : ∃ x, pqss pg = x := ⟨_, rfl⟩
  rw [ef, eP, eG] at hv3 hSm
  rw [ef] at hfl
  rw [eP] at hpl
  rw [eG] at hgl
  have HSM := hide hSm
  have HFL := hide hfl
  obtain ⟨cf, cp, cg, rfl, hF, hP, hG⟩ := hv3
  have hcf := law_len hF
  have hcp := rows_len hP
  have hcg := rows_len hG
  rw [hfl] at hcf
  rw [hpl] at hcp
  rw [hgl] at hcg
  have X3 := HBox.new hF hP hG
  have b3' := alloc_below w3 (.cells #[.slice cf.a cf.n cf.c, .slice cp.a cp.n cp.c, .slice cg.a cg.n cg.c] 31)
  have HCV : Hid (hmval cf cp cg = .agg #[.slice cf.a nf cf.c, .slice cp.a np cp.c, .slice cg.a ng cg.c]) := by show hmval cf cp cg = _; unfold hmval; rw [hcf, hcp, hcg]
  rw [unhide HCV]
  rw [hcf, hcp, hcg] at b3'
  obtain ⟨W3, hW3⟩ : ∃ W, w3.alloc (.cells #[.slice cf.a nf cf.c, .slice cp.a np cp.c, .slice cg.a ng cg.c] 31) = W := ⟨_, rfl⟩
  obtain ⟨b7, hb7⟩ : ∃ b, w3.heap.size = b := ⟨_, rfl⟩
  have X3' : HBox W3 b7 cf cp cg fs P G := by rw [← hW3, ← hb7, ← hcf, ← hcp, ← hcg]; exact X3
  rw [hW3] at b3'
  have ⟨j0, j1, j2⟩ := X3'.cells _ (Below.refl _ _)
  rw [hcf] at j0
  rw [hcp] at j1
  rw [hcg] at j2
  have H3 := hide (below_step (unhide H2) (below_step hb3 b3'))
  have HB3 := hide (below_step (unhide HB1) (unhide H3))
  have HX7 := hide X3'
  have ⟨_, j3⟩ := unhide HCB _ (unhide H3)
  have HPA := hide (path_any (hmval cf cp cg) (as_, T, cs_) fs P G T f W3 X3'.hm (unhide HSM) ((unhide HS).below (unhide HB3)) (by omega))
  rw [unhide HCV] at HPA
  simp only [Sl.a, Sl.c] at HPA
  clear hSm hfl hpl hgl ef eP eG hF hP hG hcf hcp hcg X3 X3' b3' hb3 HPB H2 HB2
  go_wp2_with fail
  clear hW3 hb7 j0 j1 j2 j3
  refine (unhide HPA).mono ?_
  rintro e w4 (⟨hsc, hpr, gl, tp, rfl, hnl, hrp, hb4⟩ | ⟨-, k, rfl, hb4⟩)
  · -- the row is told
    simp only [Tri.val]
    have b5 := alloc_below w4 (.cells #[.bool tp.s, .slice tp.a1 tp.n1 tp.c1, .slice tp.a2 tp.n2 tp.c2] 36)
    have X5 := BoxIs.new hrp
    obtain ⟨W5, hW5⟩ : ∃ W, w4.alloc (.cells #[.bool tp.s, .slice tp.a1 tp.n1 tp.c1, .slice tp.a2 tp.n2 tp.c2] 36) = W := ⟨_, rfl⟩
    obtain ⟨b9, hb9⟩ : ∃ b, w4.heap.size = b := ⟨_, rfl⟩
    rw [hW5] at b5 X5
    rw [hb9] at X5
    have H5 := hide (below_step (unhide H3) (below_step hb4 b5))
    have HB5 := hide (below_step (unhide HB1) (unhide H5))
    have HSU := hide (sure_any W5 (tab_below (unhide HTB) (unhide HB5)))
    have HX9 := hide X5
    have HNL := hide (hnl.below b5)
    have HX75 := hide ((unhide HX7).keep (below_step hb4 b5))
    have HSC := hide hsc
    clear hsc hpr hnl hrp hb4 b5 X5 HX7 H3 HB3 HPA
    go_wp2_with fail
    clear hW5 hb9
    refine (unhide HSU).mono ?_
    rintro e w6 ⟨rfl, hb6⟩
    have H6 := hide (below_step (unhide H5) hb6)
    have HB6 := hide (below_step (unhide HB1) (unhide H6))
    have HX96 := hide ((unhide HX9).keep hb6)
    have HNL6 := hide ((unhide HNL).below hb6)
    have HX76 := hide ((unhide HX75).keep hb6)
    have ⟨_, j3⟩ := unhide HCB _ (unhide H6)
    have e7 : ((T : Int) != (T : Int)) = false := by simp
    clear HX9 HNL HX75 hb6 HSU H5 HB5
    obtain ⟨hc0, hT12, hsg⟩ := scode_good (unhide HSC)
    have gm := goodH_of hc0
    obtain ⟨m, hm_⟩ : ∃ m, hm fs P G = m := ⟨_, rfl⟩
    have hmn : m.n = nf := by rw [← hm_]; exact unhide HFL
    have hmn1 : 0 < m.n := by omega
    have hsl : ∀ i, i < T → sOf f i < (G[0]!).length := fun i hi => by
      have := hsg i hi
      unfold sOf; omega
    have HEV : Hid (VEnv w6 b3 b4 b7 (sf.a, nf, sf.c) (.slice sp.a np sp.c) (.slice sg.a ng sg.c) (as_, T, cs_) cf cp cg fs P G T nf (sOf f)) := ⟨heap_kept (unhide HN3) (unhide H6), heap_kept (unhide HN4) (unhide H6), unhide HX76, ((unhide HS).below (unhide HB6)).congr (fun i hi => by
      have := hsg i hi
      unfold sOf; omega)⟩
    obtain ⟨q, hq⟩ : ∃ q, Blf.pr (hm fs P G) (sOf f) (Blf.vst (hm fs P G) (sOf f) T) T = q := ⟨_, rfl⟩
    have hvl : ∀ t, Blf.vst (hm fs P G) (sOf f) T t < nf := fun t => by
      have := Blf.vst_lt (m := hm fs P G) (by rw [hm_]; exact hmn1) (sOf f) T t
      have e : (hm fs P G).n = nf := by rw [hm_]; exact hmn
      rw [e] at this; exact this
    have hqr : RS q 60 := by
      rw [← hq]
      exact (pr_RS gm (unhide HSM) hsl (fun i => by rw [unhide HFL]; exact hvl i) T (Nat.le_refl _)).mono (by omega)
    obtain ⟨q2, hq2⟩ : ∃ q2, Blf.pr (hm fs P G) (sOf f) (fun t => pkv (g t) nf) T = q2 := ⟨_, rfl⟩
    have hq2r : RS q2 60 := by
      rw [← hq2]
      exact (pr_RS gm (unhide HSM) hsl (fun i => by rw [unhide HFL]; exact pkv_lt _ (by omega)) T (Nat.le_refl _)).mono (by omega)
    have hle : q2 ≤ q := by
      rw [← hq2, ← hq]
      exact Blf.viterbi gm.ok (by rw [hm_]; exact hmn1) hsl (fun u _ => by
        show pkv (g u) nf < (hm fs P G).n
        rw [hm_, hmn]; exact pkv_lt _ (by omega)) (Blf.vst_vit _ _ _)
    have HL1 : Hid (∀ W, Below w6.heap.size w6 W → Calls Tryd.prog 9 #[.slice (some ⟨gl, 0, none⟩) T T, .pointer (some ⟨b4, 0, none⟩), .pointer (some ⟨b3, 0, none⟩), .pointer (some ⟨b7, 0, none⟩)] W fun e w' => ∃ v, e = .returned v ∧ RatIs w' v q ∧ Below W.heap.size W w') := fun W hW => by
      have := likely_any b3 b4 b7 (sf.a, nf, sf.c) (.slice sp.a np sp.c) (.slice sg.a ng sg.c) (as_, T, cs_) cf cp cg (some ⟨gl, 0, none⟩, T, T) fs P G T nf T (sOf f) (fun i => ((Blf.vst (hm fs P G) (sOf f) T i : Nat) : Int)) W ((unhide HEV).keep hW) gm (unhide HSM) (unhide HFL) ((unhide HNL6).below hW) (Nat.le_refl _) hT12 (by omega) hsl
      rw [show (fun t => pkv (((Blf.vst (hm fs P G) (sOf f) T t : Nat) : Int)) nf) = Blf.vst (hm fs P G) (sOf f) T from funext (fun t => pkv_small (hvl t) (by omega)), hq] at this
      exact this
    have HL2 : Hid (∀ W, Below w6.heap.size w6 W → Calls Tryd.prog 9 #[.slice ar_ L cr_, .pointer (some ⟨b4, 0, none⟩), .pointer (some ⟨b3, 0, none⟩), .pointer (some ⟨b7, 0, none⟩)] W fun e w' => ∃ v, e = .returned v ∧ RatIs w' v q2 ∧ Below W.heap.size W w') := fun W hW => by
      have := likely_any b3 b4 b7 (sf.a, nf, sf.c) (.slice sp.a np sp.c) (.slice sg.a ng sg.c) (as_, T, cs_) cf cp cg (ar_, L, cr_) fs P G T nf L (sOf f) g W ((unhide HEV).keep hW) gm (unhide HSM) (unhide HFL) (((unhide HR).below (unhide HB6)).below hW) (by omega) hT12 (by omega) hsl
      rw [hq2] at this
      exact this
    have HX9q : Hid (BoxIs w6 b9 tp q) := by show BoxIs w6 b9 tp q; rw [← hq]; exact unhide HX96
    have HC10 : Hid (∀ W, Below w6.heap.size w6 W → (fun w' : World => w'.cell? ⟨b9, 0, none⟩ = some (.bool tp.s) ∧ w'.cell? ⟨b9, 1, none⟩ = some (.slice tp.a1 tp.n1 tp.c1) ∧ w'.cell? ⟨b9, 2, none⟩ = some (.slice tp.a2 tp.n2 tp.c2)) W) := fun W hW => (unhide HX9q).cells W hW
    have hcm := cmpv_le hle
    obtain ⟨y, hy⟩ : ∃ y, cmpv q2 q = y := ⟨_, rfl⟩
    rw [hy] at hcm
    have hy0 : y ≤ 0 := hcm.2
    have HLI : Hid (∀ (W : World) (v : Value), Below w6.heap.size w6 W → RatIs W v q → Calls Tryd.prog 13 #[v, .agg #[.bool tp.s, .slice tp.a1 tp.n1 tp.c1, .slice tp.a2 tp.n2 tp.c2]] W fun e w' => e = .returned (.bool true) ∧ Below W.heap.size W w') := fun W v hW hv => like_any v tp.val q W hv ((unhide HX9q).2.below hW) 60 hqr (by rw [KKe]; omega) (tab_below (unhide HTB) (below_step (unhide HB6) hW))
    have HCM : Hid (∀ (W : World) (v : Value), Below w6.heap.size w6 W → RatIs W v q2 → Calls Tryd.prog 14 #[v, .agg #[.bool tp.s, .slice tp.a1 tp.n1 tp.c1, .slice tp.a2 tp.n2 tp.c2]] W fun e w' => e = .returned (.int .i64 y) ∧ Below W.heap.size W w') := fun W v hW hv => by
      rw [← hy]
      exact cmpR_all v tp.val q2 q W hv ((unhide HX9q).2.below hW) 60 hq2r hqr (by rw [KKe]; omega)
    clear hc0 hT12 hsg gm hm_ hmn hmn1 hsl hq hvl hqr hq2 hq2r hle hcm hy HEV HX96 HNL6 HX76 HSC
    go_wp2_with fail
    clear j3 e7
    refine wp_region_hold (fun w' : World => w'.cell? ⟨b9, 0, none⟩ = some (.bool tp.s) ∧ w'.cell? ⟨b9, 1, none⟩ = some (.slice tp.a1 tp.n1 tp.c1) ∧ w'.cell? ⟨b9, 2, none⟩ = some (.slice tp.a2 tp.n2 tp.c2)) (by kernel_rfl) ?_
    have bd0 : Below w6.heap.size w6 w6.drew := (Below.refl _ _).drew
    have hC0 : (fun w' : World => w'.cell? ⟨b9, 0, none⟩ = some (.bool tp.s) ∧ w'.cell? ⟨b9, 1, none⟩ = some (.slice tp.a1 tp.n1 tp.c1) ∧ w'.cell? ⟨b9, 2, none⟩ = some (.slice tp.a2 tp.n2 tp.c2)) w6.drew := unhide HC10 _ bd0
    refine wpHold_take (i := 0) (v := ?_) rfl (by kernel_rfl) (by kernel_rfl) (by kernel_rfl) (fun _ _ _ h => h) (Or.inl ⟨by rfl, ?_⟩) hC0 ?_
    rotate_left
    · intro w hSw; clear hSw; go_simp; (try with_reducible rfl)
    (try simp only [List.getElem_toArray, List.getElem_cons_succ, List.getElem_cons_zero])
    (try simp only [Act.put, List.setIfInBounds_toArray, List.set_cons_zero, List.set_cons_succ])
    refine wpHold_take (i := 1) (v := ?_) rfl (by kernel_rfl) (by kernel_rfl) (by kernel_rfl) (fun _ _ _ h => h) (Or.inl ⟨by rfl, ?_⟩) hC0 ?_
    rotate_left
    · intro w hSw; clear hSw; go_simp; (try with_reducible rfl)
    (try simp only [List.getElem_toArray, List.getElem_cons_succ, List.getElem_cons_zero])
    (try simp only [Act.put, List.setIfInBounds_toArray, List.set_cons_zero, List.set_cons_succ])
    refine wpHold_take (i := 3) (v := ?_) rfl (by kernel_rfl) (by kernel_rfl) (by kernel_rfl) (fun _ _ _ h => h) (Or.inl ⟨by rfl, ?_⟩) hC0 ?_
    rotate_left
    · intro w hSw; (try dsimp only at hSw); obtain ⟨u0, u1, u2⟩ := hSw; go_simp; (try with_reducible rfl)
    (try simp only [List.getElem_toArray, List.getElem_cons_succ, List.getElem_cons_zero])
    (try simp only [Act.put, List.setIfInBounds_toArray, List.set_cons_zero, List.set_cons_succ])
    refine wpHold_one (k := 2) (by kernel_rfl) rfl (fun K hK => ?_)
    (try simp only [List.getElem_toArray, List.getElem_cons_succ, List.getElem_cons_zero])
    go_simp
    refine (unhide HL1 _ bd0).mono ?_
    rintro e xw_1 ⟨xv_1, rfl, hv_1, hb_1⟩
    have cc_1 := below_step bd0 hb_1
    have hC_1 : (fun w' : World => w'.cell? ⟨b9, 0, none⟩ = some (.bool tp.s) ∧ w'.cell? ⟨b9, 1, none⟩ = some (.slice tp.a1 tp.n1 tp.c1) ∧ w'.cell? ⟨b9, 2, none⟩ = some (.slice tp.a2 tp.n2 tp.c2)) xw_1 := unhide HC10 _ cc_1
    refine hK.out _ _ hC_1 ?_
    clear hK K
    (try simp only [Act.put, List.setIfInBounds_toArray, List.set_cons_zero, List.set_cons_succ])
    refine wpHold_one (k := 4) (by kernel_rfl) rfl (fun K hK => ?_)
    (try simp only [List.getElem_toArray, List.getElem_cons_succ, List.getElem_cons_zero])
    go_simp
    refine (unhide HLI _ _ cc_1 hv_1).mono ?_
    rintro e xw_2 ⟨rfl, hb_2⟩
    have cc_2 := below_step cc_1 hb_2
    have hC_2 : (fun w' : World => w'.cell? ⟨b9, 0, none⟩ = some (.bool tp.s) ∧ w'.cell? ⟨b9, 1, none⟩ = some (.slice tp.a1 tp.n1 tp.c1) ∧ w'.cell? ⟨b9, 2, none⟩ = some (.slice tp.a2 tp.n2 tp.c2)) xw_2 := unhide HC10 _ cc_2
    refine hK.out _ _ hC_2 ?_
    clear hK K
    (try simp only [Act.put, List.setIfInBounds_toArray, List.set_cons_zero, List.set_cons_succ])
    refine wpHold_take (i := 5) (v := ?_) rfl (by kernel_rfl) (by kernel_rfl) (by kernel_rfl) (fun _ _ _ h => h) (Or.inl ⟨by rfl, ?_⟩) hC_2 ?_
    rotate_left
    · intro w hSw; clear hSw; go_simp; (try with_reducible rfl)
    (try simp only [List.getElem_toArray, List.getElem_cons_succ, List.getElem_cons_zero])
    (try simp only [Act.put, List.setIfInBounds_toArray, List.set_cons_zero, List.set_cons_succ])
    refine wpHold_take (i := 6) (v := ?_) rfl (by kernel_rfl) (by kernel_rfl) (by kernel_rfl) (fun _ _ _ h => h) (Or.inl ⟨by rfl, ?_⟩) hC_2 ?_
    rotate_left
    · intro w hSw; clear hSw; go_simp; (try with_reducible rfl)
    (try simp only [List.getElem_toArray, List.getElem_cons_succ, List.getElem_cons_zero])
    (try simp only [Act.put, List.setIfInBounds_toArray, List.set_cons_zero, List.set_cons_succ])
    refine wpHold_take (i := 7) (v := ?_) rfl (by kernel_rfl) (by kernel_rfl) (by kernel_rfl) (fun _ _ _ h => h) (Or.inl ⟨by rfl, ?_⟩) hC_2 ?_
    rotate_left
    · intro w hSw; clear hSw; go_simp; (try with_reducible rfl)
    (try simp only [List.getElem_toArray, List.getElem_cons_succ, List.getElem_cons_zero])
    (try simp only [Act.put, List.setIfInBounds_toArray, List.set_cons_zero, List.set_cons_succ])
    refine wpHold_take (i := 9) (v := ?_) rfl (by kernel_rfl) (by kernel_rfl) (by kernel_rfl) (fun _ _ _ h => h) (Or.inl ⟨by rfl, ?_⟩) hC_2 ?_
    rotate_left
    · intro w hSw; (try dsimp only at hSw); obtain ⟨u0, u1, u2⟩ := hSw; go_simp; (try with_reducible rfl)
    (try simp only [List.getElem_toArray, List.getElem_cons_succ, List.getElem_cons_zero])
    (try simp only [Act.put, List.setIfInBounds_toArray, List.set_cons_zero, List.set_cons_succ])
    refine wpHold_one (k := 8) (by kernel_rfl) rfl (fun K hK => ?_)
    (try simp only [List.getElem_toArray, List.getElem_cons_succ, List.getElem_cons_zero])
    go_simp
    refine (unhide HL2 _ cc_2).mono ?_
    rintro e xw_3 ⟨xv_3, rfl, hv_3, hb_3⟩
    have cc_3 := below_step cc_2 hb_3
    have hC_3 : (fun w' : World => w'.cell? ⟨b9, 0, none⟩ = some (.bool tp.s) ∧ w'.cell? ⟨b9, 1, none⟩ = some (.slice tp.a1 tp.n1 tp.c1) ∧ w'.cell? ⟨b9, 2, none⟩ = some (.slice tp.a2 tp.n2 tp.c2)) xw_3 := unhide HC10 _ cc_3
    refine hK.out _ _ hC_3 ?_
    clear hK K
    (try simp only [Act.put, List.setIfInBounds_toArray, List.set_cons_zero, List.set_cons_succ])
    refine wpHold_one (k := 10) (by kernel_rfl) rfl (fun K hK => ?_)
    (try simp only [List.getElem_toArray, List.getElem_cons_succ, List.getElem_cons_zero])
    go_simp
    refine (unhide HCM _ _ cc_3 hv_3).mono ?_
    rintro e xw_4 ⟨rfl, hb_4⟩
    have cc_4 := below_step cc_3 hb_4
    have hC_4 : (fun w' : World => w'.cell? ⟨b9, 0, none⟩ = some (.bool tp.s) ∧ w'.cell? ⟨b9, 1, none⟩ = some (.slice tp.a1 tp.n1 tp.c1) ∧ w'.cell? ⟨b9, 2, none⟩ = some (.slice tp.a2 tp.n2 tp.c2)) xw_4 := unhide HC10 _ cc_4
    refine hK.out _ _ hC_4 ?_
    clear hK K
    (try simp only [Act.put, List.setIfInBounds_toArray, List.set_cons_zero, List.set_cons_succ])
    refine wpHold_take (i := 11) (v := ?_) rfl (by kernel_rfl) (by kernel_rfl) (by kernel_rfl) (fun _ _ _ h => h) (Or.inl ⟨by rfl, ?_⟩) hC_4 ?_
    rotate_left
    · intro w hSw; clear hSw; go_simp; (try with_reducible rfl)
    (try simp only [List.getElem_toArray, List.getElem_cons_succ, List.getElem_cons_zero])
    (try simp only [Act.put, List.setIfInBounds_toArray, List.set_cons_zero, List.set_cons_succ])
    refine wpHold_take (i := 12) (v := ?_) rfl (by kernel_rfl) (by kernel_rfl) (by kernel_rfl) (fun _ _ _ h => h) (Or.inl ⟨by rfl, ?_⟩) hC_4 ?_
    rotate_left
    · intro w hSw; clear hSw; go_simp; (try with_reducible rfl)
    (try simp only [List.getElem_toArray, List.getElem_cons_succ, List.getElem_cons_zero])
    (try simp only [Act.put, List.setIfInBounds_toArray, List.set_cons_zero, List.set_cons_succ])
    refine wpHold_one (k := 13) (by kernel_rfl) rfl (fun K hK => ?_)
    (try simp only [List.getElem_toArray, List.getElem_cons_succ, List.getElem_cons_zero])
    go_simp
    refine hK.out _ _ hC_4 ?_
    clear hK K
    (try simp only [Act.put, List.setIfInBounds_toArray, List.set_cons_zero, List.set_cons_succ])
    refine wpHold_done (by kernel_rfl) ?_ _
    have HFB := hide (below_step (unhide HB6) cc_4)
    clear hC0 bd0
    go_wp2
    go_ret
    exact ⟨rfl, unhide HFB⟩
  · -- an error
    have b5 := alloc_below w4 (.cells #[.bool false, .slice none 0 0, .slice none 0 0] 36)
    have X5 := BoxIs.new (w := w4) (t := zTri) (q := 0) (rat_zero _)
    obtain ⟨W5, hW5⟩ : ∃ W, w4.alloc (.cells #[.bool false, .slice none 0 0, .slice none 0 0] 36) = W := ⟨_, rfl⟩
    obtain ⟨b9, hb9⟩ : ∃ b, w4.heap.size = b := ⟨_, rfl⟩
    have X5' : BoxIs W5 b9 zTri 0 := by rw [← hW5, ← hb9]; exact X5
    rw [hW5] at b5
    have hg9 : W3.heap.size ≤ b9 := by rw [← hb9]; exact hb4.size
    have ⟨l0, l1, l2⟩ := X5'.free
    have ⟨y0, y1, y2⟩ := X5'.cells _ (Below.refl _ _)
    have FIN := X5'.set (t' := zTri) (q' := 0) (rat_zero _)
    have hb45 := below_step hb4 b5
    have FB := ((hb45.setCell (p := ⟨b9, 0, none⟩) hg9 (.bool false)).setCell (p := ⟨b9, 1, none⟩) hg9 (.slice none 0 0)).setCell (p := ⟨b9, 2, none⟩) hg9 (.slice none 0 0)
    obtain ⟨W6, hW6⟩ : ∃ W, ((W5.setCell ⟨b9, 0, none⟩ (.bool false)).setCell ⟨b9, 1, none⟩ (.slice none 0 0)).setCell ⟨b9, 2, none⟩ (.slice none 0 0) = W := ⟨_, rfl⟩
    have FIN' : BoxIs W6 b9 zTri 0 := by rw [← hW6]; exact FIN
    rw [hW6] at FB
    have HB6 := hide (below_step (unhide HB3) FB)
    have HX9 := hide FIN'
    have HSU := hide (sure_any W6 (tab_below (unhide HTB) (unhide HB6)))
    clear X5 X5' b5 hb45 hb4 hg9 FIN FIN' FB HPA
    go_wp2_with fail
    clear hW5 hb9 hW6 l0 l1 l2 y0 y1 y2
    refine (unhide HSU).mono ?_
    rintro e w7 ⟨rfl, hb7'⟩
    have HB7 := hide (below_step (unhide HB6) hb7')
    have HX97 := hide ((unhide HX9).keep hb7')
    have HSU2 := hide (sure_any w7 (tab_below (unhide HTB) (unhide HB7)))
    clear hb7' HSU HX9 HB6
    go_wp2_with fail
    refine (unhide HSU2).mono ?_
    rintro e w8 ⟨rfl, hb8⟩
    have HB8 := hide (below_step (unhide HB7) hb8)
    have X8 := (unhide HX97).keep hb8
    have HSI := hide (sign_any zTri.val 0 w8 X8.2)
    have ⟨z0, z1, z2⟩ := X8.cells _ (Below.refl _ _)
    have z0 : w8.cell? ⟨b9, 0, none⟩ = some (.bool false) := z0
    have z1 : w8.cell? ⟨b9, 1, none⟩ = some (.slice none 0 0) := z1
    have z2 : w8.cell? ⟨b9, 2, none⟩ = some (.slice none 0 0) := z2
    have hz0 : (0 : Rat).num.sign = 0 := rfl
    rw [hz0] at HSI
    clear hb8 X8 HSU2 HX97 HB7 hz0
    go_wp2_with fail
    clear z0 z1 z2
    refine (unhide HSI).mono ?_
    rintro e w9 ⟨rfl, hb9'⟩
    have HB9 := hide (below_step (unhide HB8) hb9')
    clear hb9' HSI HB8
    go_wp2
    go_ret
    exact ⟨rfl, unhide HB9⟩

end Go.Proofs.YtmfpoddiijpcnaaDoor
