/- BeliefSums' walk. -/
import Derived.Test.YtfnbjenneodcdaaGreatDoorLE
import Derived.Test.YtfnbjenneodcdaaGreatDoorLF
import Derived.Test.YtfnbjenneodcdaaGreatDoorT1
namespace Go.Proofs.YtfnbjenneodcdaaGreatDoor
open Go.RowKit Go.Sort Go.Shelf

theorem wpo_none {P : Program} {w : World} {o : Oper} {a : Act} {K : Act → World → Prop} {Q : Exit → Act → World → Prop} (hgd : o.guard = none) (s x : Operand) (t : TypeId)
    (ho : o.op = .call { callee := .builtin .append, args := #[s, x], argTypes := #[t, t] }) (e : TypeId) (i : TypeInfo) (ht : P.underlying t = some (.slice e)) (hi : P.info? e = some i)
    (y : Value) (hx : a.eval x = y) (b : Addr) (n cap : Nat) (hle : n ≤ cap) (hs : a.eval s = .slice (some b) n cap) (ad : Option Addr) (c : Nat) (hy : y = .slice ad 0 c)
    (h : K (a.put o.dst (.slice (some b) n cap)) w) : Oper.wp P o a w K Q := by
  have h2 := step_append_none (ops := #[]) (E := True) (Q := Q) hgd s x t ho e i ht hi b n cap hle hs ad c (hx.trans hy) h
  have hw : Region.wanted o (yielded #[] a.tmps) = true := by simp [Region.wanted, hgd]
  rwa [if_pos hw] at h2
theorem wpo_app {o : Oper} {a : Act} {w : World} {K : Act → World → Prop} {Q : Exit → Act → World → Prop} (hgd : o.guard = none) (s x : Operand)
    (ho : o.op = .call { callee := .builtin .append, args := #[s, x], argTypes := #[36, 36] }) (ti : TypeInfo) (hi : Tryz.prog.info? 3 = some ti) (hz0 : ti.zero = some (.int .i64 0)) (hz1 : ti.size = 1) (hz2 : ti.bytes = 8)
    (y : Value) (hx : a.eval x = y) (base g n cap : Nat) (xs : List Value) (hs : a.eval s = .slice (some ⟨g, 0, none⟩) n cap) (hown : w.ownsRow base 3 1 (.slice (some ⟨g, 0, none⟩) n cap) n xs)
    (ad : Addr) (m c : Nat) (news : List Value) (hy : y = .slice (some ad) m c) (hl : news.length = m) (hnews : ∀ j u, news[j]? = some u → w.cell? (ad.add j) = some u) (h1 : ∀ u ∈ news, u.oneCell' = true)
    (hnm : n + m ≤ 100000) (hbase : base ≤ w.heap.size)
    (h : ∀ g' cap' w', w'.ownsRow base 3 1 (.slice (some ⟨g', 0, none⟩) (n + m) cap') (n + m) (xs ++ news) → w.grownBy w' (some g) → (g' = g ∨ g' = w.heap.size) → K (a.put o.dst (.slice (some ⟨g', 0, none⟩) (n + m) cap')) w') :
    Oper.wp Tryz.prog o a w K Q := by
  have h2 := step_app (ops := #[]) (E := True) (Q := Q) hgd s x ho ti hi hz0 hz1 hz2 base g n cap xs hs hown ad m c news (hx.trans hy) hl hnews h1 hnm hbase h
  have hw : Region.wanted o (yielded #[] a.tmps) = true := by simp [Region.wanted, hgd]
  rwa [if_pos hw] at h2

set_option maxHeartbeats 16000000 in
set_option maxRecDepth 100000 in
set_option linter.unusedSimpArgs false in
theorem beliefSums_any (v vs : Value) (ps : List (Int × Int)) (pp pg : List (List (Int × Int))) (T : Nat) (f : Nat → Int) (w : World) (htab : Tab w) (hety : ErrTy w) (h : PHmIs w v ps pp pg) (sp_ : SmP pp) (sg_ : SmP pg) (hps : ps.length ≤ 1048576) (hs : NRow w vs T f) :
    Calls Tryz.prog 4 #[v, vs] w fun e w' => e = .returned (.bool true) ∧ Below w.heap.size w w' := by
  have HS := hide hs
  have HET := hide hety
  obtain ⟨as_, cs_, rfl, hs1, hs2, hs3⟩ := hs
  clear hs3 hety
  have KKe : KK = 1099511627776 := rfl
  have HTB := hide htab
  have HPC := hide h
  have HSP := hide sp_
  have HSG := hide sg_
  have HPS := hide hps
  obtain ⟨sf, sp, sg, rfl, hF, hP, hG⟩ := h
  have hfn := pairs_len hF
  have hpn := prows_len hP
  have hgn := prows_len hG
  obtain ⟨nf, hnf⟩ : ∃ n, ps.length = n := ⟨_, rfl⟩
  obtain ⟨np, hnp⟩ : ∃ n, pp.length = n := ⟨_, rfl⟩
  obtain ⟨ng, hng⟩ : ∃ n, pg.length = n := ⟨_, rfl⟩
  rw [hnf] at hfn
  rw [hnp] at hpn
  rw [hng] at hgn
  have HNF := hide hnf
  have HNP := hide hnp
  have HNG := hide hng
  have HPV : Hid (hmval sf sp sg = .agg #[.slice sf.a nf sf.c, .slice sp.a np sp.c, .slice sg.a ng sg.c]) := by show hmval sf sp sg = _; unfold hmval; rw [hfn, hpn, hgn]
  rw [unhide HPV] at HPC ⊢
  have hPv : sp.val = .slice sp.a np sp.c := by show Value.slice sp.a sp.n sp.c = _; rw [hpn]
  have hGv : sg.val = .slice sg.a ng sg.c := by show Value.slice sg.a sg.n sg.c = _; rw [hgn]
  rw [hPv] at hP
  rw [hGv] at hG
  have b0 := alloc_below w (.cells #[.slice sf.a nf sf.c, .slice sp.a np sp.c, .slice sg.a ng sg.c] 49)
  have n0 := heap_alloc_new w (.cells #[.slice sf.a nf sf.c, .slice sp.a np sp.c, .slice sg.a ng sg.c] 49)
  obtain ⟨W0, hW0⟩ : ∃ W, w.alloc (.cells #[.slice sf.a nf sf.c, .slice sp.a np sp.c, .slice sg.a ng sg.c] 49) = W := ⟨_, rfl⟩
  obtain ⟨b3, hb3⟩ : ∃ b, w.heap.size = b := ⟨_, rfl⟩
  rw [hW0] at b0 n0
  rw [hb3] at n0
  have nf63 : nf ≤ 9223372036854775807 := by rw [← hnf]; omega
  have HN3 := hide n0
  have HCB : Hid (∀ W, Below W0.heap.size W0 W → W.cell? ⟨b3, 0, none⟩ = some (.slice sf.a nf sf.c) ∧ W.cell? ⟨b3, 1, none⟩ = some (.slice sp.a np sp.c) ∧ W.cell? ⟨b3, 2, none⟩ = some (.slice sg.a ng sg.c)) := fun W hW => by
    have h3 := heap_kept (unhide HN3) hW
    simp [World.cell?, h3]
  have ⟨i0, i1, i2⟩ := unhide HCB _ (Below.refl _ _)
  have HB1 := hide b0
  have HWN := hide (wide_any (.slice sp.a np sp.c) pp 30 W0 (hP.below (unhide HB1)) (unhide HSP) (by decide))
  have HWG : Hid (∀ W, Below W0.heap.size W0 W → Calls Tryz.prog 13 #[.slice sg.a ng sg.c, .int .i64 ((30 : Nat) : Int)] W (AskPost W (WideP pg 30))) := fun W hW => wide_any (.slice sg.a ng sg.c) pg 30 W ((hG.below (unhide HB1)).below hW) (unhide HSG) (by decide)
  clear hF hP hG hfn hpn hgn hnf hnp hng hPv hGv b0 n0 sp_ sg_ hps htab
  go_enter Tryz.func4, Tryz.ntmps4
  go_wp2_with fail
  clear hW0 hb3 i0 i1 i2
  refine (unhide HWN).mono ?_
  rintro e w1 ⟨(⟨hw, rfl⟩ | ⟨hw, rfl⟩), hb1⟩
  · have HB2 := hide (below_step (unhide HB1) hb1)
    clear hw hb1 HWN
    go_wp2
    go_ret
    exact ⟨rfl, unhide HB2⟩
  have HTP : Hid (tot pp ≤ 30) := Nat.le_of_not_lt hw
  have H1 := hide hb1
  have ⟨i0, i1, i2⟩ := unhide HCB _ hb1
  have HWG1 := hide (unhide HWG w1 hb1)
  clear hw hb1 HWN HWG
  go_wp2_with fail
  clear i0 i1 i2
  refine (unhide HWG1).mono ?_
  rintro e w2 ⟨(⟨hw, rfl⟩ | ⟨hw, rfl⟩), hb2⟩
  · have HB2 := hide (below_step (below_step (unhide HB1) (unhide H1)) hb2)
    clear hw hb2 HWG1
    go_wp2
    go_ret
    exact ⟨rfl, unhide HB2⟩
  have HTG : Hid (tot pg ≤ 30) := Nat.le_of_not_lt hw
  have H2 := hide (below_step (unhide H1) hb2)
  have HB2 := hide (below_step (unhide HB1) (unhide H2))
  have ⟨i0, i1, i2⟩ := unhide HCB _ (unhide H2)
  clear hw hb2 HWG1 H1
  by_cases h6 : (6 : Int) < (T : Int)
  · go_wp2
    go_ret
    exact ⟨rfl, unhide HB2⟩
  by_cases h4 : (4 : Int) < (nf : Int)
  · go_wp2
    go_ret
    exact ⟨rfl, unhide HB2⟩
  have HPB := hide (pbelief_any _ ps pp pg w2 ((unhide HPC).below (unhide HB2)) (unhide HSP) (unhide HSG) (unhide HPS))
  go_wp2_with fail
  clear i0 i1 i2
  refine (unhide HPB).mono ?_
  rintro e w3 ⟨v3, rfl, hv3, hb3⟩
  have hSm : SmHm (pqs ps) (pqss pp) (pqss pg) := smHm_of (unhide HPC) (unhide HTP) (unhide HTG) (by have := unhide HNF; omega)
  have hfl : (pqs ps).length = nf := by rw [pqs_length]; exact unhide HNF
  have hpl : (pqss pp).length = np := by rw [pqss_length]; exact unhide HNP
  have hgl : (pqss pg).length = ng := by rw [pqss_length]; exact unhide HNG
  obtain ⟨fs, ef⟩ : ∃ x, pqs ps = x := ⟨_, rfl⟩
  obtain ⟨P, eP⟩ : ∃ x, pqss pp = x := ⟨_, rfl⟩
  obtain ⟨G, eG⟩ : ∃ x, pqss pg = x := ⟨_, rfl⟩
  rw [ef, eP, eG] at hv3 hSm
  rw [ef] at hfl
  rw [eP] at hpl
  rw [eG] at hgl
  have HSM := hide hSm
  have HFL := hide hfl
  obtain ⟨cf, cp, cg, rfl, hF, hP, hG⟩ := hv3
  have hcf := law_len hF
  have hcp := rows_len hP
  have hcg := rows_len hG
  rw [hfl] at hcf
  rw [hpl] at hcp
  rw [hgl] at hcg
  have X3 := HBox.new hF hP hG
  have b3' := alloc_below w3 (.cells #[.slice cf.a cf.n cf.c, .slice cp.a cp.n cp.c, .slice cg.a cg.n cg.c] 53)
  have HCV : Hid (hmval cf cp cg = .agg #[.slice cf.a nf cf.c, .slice cp.a np cp.c, .slice cg.a ng cg.c]) := by show hmval cf cp cg = _; unfold hmval; rw [hcf, hcp, hcg]
  rw [unhide HCV]
  rw [hcf, hcp, hcg] at b3'
  obtain ⟨W3, hW3⟩ : ∃ W, w3.alloc (.cells #[.slice cf.a nf cf.c, .slice cp.a np cp.c, .slice cg.a ng cg.c] 53) = W := ⟨_, rfl⟩
  obtain ⟨b7, hb7⟩ : ∃ b, w3.heap.size = b := ⟨_, rfl⟩
  have X3' : HBox W3 b7 cf cp cg fs P G := by rw [← hW3, ← hb7, ← hcf, ← hcp, ← hcg]; exact X3
  rw [hW3] at b3'
  have HB3 := hide (below_step (unhide HB1) (below_step (unhide H2) (below_step hb3 b3')))
  have HX7 := hide X3'
  have HC7 : Hid (∀ W, Below W3.heap.size W3 W → W.cell? ⟨b7, 0, none⟩ = some (.slice cf.a nf cf.c) ∧ W.cell? ⟨b7, 1, none⟩ = some (.slice cp.a np cp.c) ∧ W.cell? ⟨b7, 2, none⟩ = some (.slice cg.a ng cg.c)) := fun W hW => by
    have h1 := (unhide HX7).cells W hW
    rw [hcf, hcp, hcg] at h1
    exact h1
  have HIS : Hid (∀ W, Below W3.heap.size W3 W → HmIs W (.agg #[.slice cf.a nf cf.c, .slice cp.a np cp.c, .slice cg.a ng cg.c]) fs P G) := fun W hW => by
    have h1 := (unhide HX7).hm.below hW
    rw [unhide HCV] at h1
    exact h1
  have HSW : Hid (∀ W, Below W3.heap.size W3 W → NRow W (.slice as_ T cs_) T f) := fun W hW => (unhide HS).below (below_step (unhide HB3) hW)
  have ⟨j0, j1, j2⟩ := unhide HC7 _ (Below.refl _ _)
  have HFI := hide (filter_any (.agg #[.slice cf.a nf cf.c, .slice cp.a np cp.c, .slice cg.a ng cg.c]) (as_, T, cs_) fs P G T f W3 (unhide HIS _ (Below.refl _ _)) (unhide HSM) (unhide HSW _ (Below.refl _ _)) (by omega))
  have HSMO : Hid (∀ W, Below W3.heap.size W3 W → Calls Tryz.prog 16 #[.agg #[.slice cf.a nf cf.c, .slice cp.a np cp.c, .slice cg.a ng cg.c], .slice as_ T cs_] W (FilPost (smo_ (Blf.al (hm fs P G) (sOf f)) (Blf.bw (hm fs P G) (sOf f) T (Blf.mn fs.length)) (Blf.seen (hm fs P G) (sOf f) T) T) W fs P G T f)) := fun W hW => smooth_any (.agg #[.slice cf.a nf cf.c, .slice cp.a np cp.c, .slice cg.a ng cg.c]) (as_, T, cs_) fs P G T f W (unhide HIS _ hW) (unhide HSM) (unhide HSW _ hW) (by omega)
  have HLIK : Hid (∀ W, Below W3.heap.size W3 W → Calls Tryz.prog 17 #[.agg #[.slice cf.a nf cf.c, .slice cp.a np cp.c, .slice cg.a ng cg.c], .slice as_ T cs_] W (LikPost W fs P G T f)) := fun W hW => likely16_any (.agg #[.slice cf.a nf cf.c, .slice cp.a np cp.c, .slice cg.a ng cg.c]) (as_, T, cs_) fs P G T f W (unhide HIS _ hW) (unhide HSM) (unhide HSW _ hW) (by omega)
  simp only [Sl.a, Sl.c] at HFI
  clear hSm hfl hpl hgl ef eP eG hF hP hG hcf hcp hcg X3 X3' b3' hb3 HPB H2 HB2
  go_wp2_with fail
  clear hW3 hb7 j0 j1 j2
  refine (unhide HFI).mono ?_
  rintro e w4 (⟨hsc, hpr, af, cpf, rfl, hrf, hb4⟩ | ⟨hsc, hpr, rfl, hb4⟩ | ⟨hsc, k, rfl, hb4⟩)
  · -- beliefs are told
    have HSC := hide hsc
    have HPR := hide hpr
    have HRF := hide hrf
    have H4 := hide hb4
    have ⟨j0, j1, j2⟩ := unhide HC7 _ hb4
    have HSM4 := hide (unhide HSMO _ hb4)
    have hfc : T ≤ cpf ∧ cpf ≤ 9223372036854775807 := by
      obtain ⟨a, c, e, h1, h2, _⟩ := hrf
      rw [mrows_length] at h1
      have e1 : cpf = c := by injection e
      rw [e1]; exact ⟨h1, h2⟩
    clear hsc hpr hb4 HFI hrf
    go_wp2_with fail
    clear j0 j1 j2
    refine (unhide HSM4).mono ?_
    rintro e w5 (⟨-, -, ag, cpg, rfl, hrg, hb5⟩ | ⟨-, hx, -⟩ | ⟨hx, -⟩)
    rotate_left
    · exact absurd hx (unhide HPR)
    · exact absurd (unhide HSC) hx
    have hgc : T ≤ cpg ∧ cpg ≤ 9223372036854775807 := by
      obtain ⟨a, c, e, h1, h2, _⟩ := hrg
      rw [mrows_length] at h1
      have e1 : cpg = c := by injection e
      rw [e1]; exact ⟨h1, h2⟩
    have H5 := hide (below_step (unhide H4) hb5)
    have HRG := hide hrg
    replace HRF := hide ((unhide HRF).below hb5)
    have ⟨j0, j1, j2⟩ := unhide HC7 _ (unhide H5)
    have HLI5 := hide (unhide HLIK _ (unhide H5))
    clear hb5 HSM4 H4 hrg
    go_wp2_with fail
    clear j0 j1 j2
    refine (unhide HLI5).mono ?_
    rintro e w6 (⟨-, tp, rfl, hrp, hb6⟩ | ⟨hx, -⟩)
    rotate_left
    · exact absurd (unhide HSC) hx
    simp only [Tri.val]
    have b9_ := alloc_below w6 (.cells #[.bool tp.s, .slice tp.a1 tp.n1 tp.c1, .slice tp.a2 tp.n2 tp.c2] 26)
    have X9 := BoxIs.new hrp
    obtain ⟨W9, hW9⟩ : ∃ W, w6.alloc (.cells #[.bool tp.s, .slice tp.a1 tp.n1 tp.c1, .slice tp.a2 tp.n2 tp.c2] 26) = W := ⟨_, rfl⟩
    obtain ⟨b9, hb9⟩ : ∃ b, w6.heap.size = b := ⟨_, rfl⟩
    rw [hW9] at b9_ X9
    rw [hb9] at X9
    have H9 := hide (below_step (unhide H5) (below_step hb6 b9_))
    have HB9 := hide (below_step (unhide HB3) (unhide H9))
    have HX9 := hide X9
    replace HRF := hide (((unhide HRF).below hb6).below b9_)
    replace HRG := hide (((unhide HRG).below hb6).below b9_)
    have HSU := hide (sure_any W9 (tab_below (unhide HTB) (unhide HB9)))
    clear hrp hb6 b9_ X9 HLI5 H5
    go_wp2_with fail
    clear hW9 hb9
    refine (unhide HSU).mono ?_
    rintro e wa ⟨rfl, hba⟩
    have HBA := hide (below_step (unhide HB9) hba)
    have HA3 := hide (below_step (unhide H9) hba)
    have HXA := hide ((unhide HX9).keep hba)
    replace HRF := hide ((unhide HRF).below hba)
    replace HRG := hide ((unhide HRG).below hba)
    have ⟨x0, x1, x2⟩ := (unhide HXA).cells _ (Below.refl _ _)
    have HSI := hide (sign_any tp.val _ wa (unhide HXA).2)
    obtain ⟨q, hq⟩ : ∃ q, Blf.seen (hm fs P G) (sOf f) T = q := ⟨_, rfl⟩
    have HQ := hide hq
    rw [hq] at HSI HPR HXA HRG
    have e1 : (q.num.sign == 0) = false := by
      rw [beq_eq_false_iff_ne]
      intro e
      exact unhide HPR (Rat.num_eq_zero.1 (Int.sign_eq_zero_iff_zero.1 e))
    obtain ⟨sg_, hsg_⟩ : ∃ x, q.num.sign = x := ⟨_, rfl⟩
    rw [hsg_] at HSI e1
    simp only [Tri.val] at HSI
    obtain ⟨hc0, hT12, hsg⟩ := scode_good (unhide HSC)
    have gm := goodH_of hc0
    have HGM := hide gm
    have hnf1 : 1 ≤ nf := by rw [← unhide HFL]; exact gm.n1
    have HSL : Hid (∀ i, i < T → sOf f i < (G[0]!).length) := fun i hi => by
      have := hsg i hi
      unfold sOf; omega
    clear hba HSU HX9 hq hsg_ hc0 hT12 hsg gm H9 HB9
    go_wp2_with fail
    clear x0 x1 x2
    refine (unhide HSI).mono ?_
    rintro e wb ⟨rfl, hbb⟩
    have e2 : ((T : Int) != (T : Int)) = false := by simp
    have HBB0 := hide (below_step (unhide HBA) hbb)
    have HB30 := hide (below_step (unhide HA3) hbb)
    replace HXA := hide ((unhide HXA).keep hbb)
    replace HRF := hide ((unhide HRF).below hbb)
    replace HRG := hide ((unhide HRG).below hbb)
    obtain ⟨FF, hFF⟩ : ∃ X : Nat → Nat → Rat, flt_ (Blf.al (hm fs P G) (sOf f)) fs.length = X := ⟨_, rfl⟩
    obtain ⟨SS, hSS⟩ : ∃ X : Nat → Nat → Rat, smo_ (Blf.al (hm fs P G) (sOf f)) (Blf.bw (hm fs P G) (sOf f) T (Blf.mn fs.length)) q T = X := ⟨_, rfl⟩
    have HFF1 : Hid (∀ t, t < T → Bth.ps (FF t) nf = 1) := fun t ht => by
      rw [← hFF, ← unhide HFL]
      exact flt_one (sum_ne (unhide HGM) (unhide HSL) ht (by rw [unhide HQ]; exact unhide HPR))
    have HSS1 : Hid (∀ t, t < T → Bth.ps (SS t) nf = 1) := fun t ht => by
      rw [← hSS, ← unhide HQ, ← unhide HFL]
      exact smo_one (m := hm fs P G) ht (by rw [unhide HQ]; exact unhide HPR)
    have HLS : Hid (∀ u, T = u + 1 → row (FF u) nf = row (SS u) nf) := fun u hu => row_congr (fun i _ => by
      rw [← hFF, ← hSS, ← unhide HQ, hu]
      exact last_same (m := hm fs P G) i)
    have HPSN : Hid (∀ t i, t < T → i < nf → RS (Blf.al (hm fs P G) (sOf f) t i) 1200000) := fun t i ht hi => al_small (unhide HGM) (unhide HSM) (unhide HSL) (by omega) t i ht (by rw [unhide HFL]; exact hi)
    have HFR : Hid (∀ t i, t < T → i < nf → RS (FF t i) 14000000) := fun t i ht hi => by
      rw [← hFF]
      have a := unhide HPSN t i ht hi
      have b := ps8_RS (f := Blf.al (hm fs P G) (sOf f) t) (unhide HGM).n8 (fun i hi => unhide HPSN t i ht (by rw [← unhide HFL]; exact hi))
      exact (RS.div' a b (fun e => sum_ne (unhide HGM) (unhide HSL) ht (by rw [unhide HQ]; exact unhide HPR) (Rat.num_eq_zero.1 e))).mono (by decide)
    have HSR : Hid (∀ t i, t < T → i < nf → RS (SS t i) 14000000) := fun t i ht hi => by
      rw [← hSS]
      have a := unhide HPSN t i ht hi
      have b := seen_RS (unhide HGM) (unhide HSM) (unhide HSL) (by omega)
      rw [unhide HQ] at b
      have c := (bwmn_RS (unhide HGM) (unhide HSM) (unhide HSL) (T - 1 - t) i (by omega) (by rw [unhide HFL]; exact hi)).mono (bsz_le (by omega))
      exact ((RS.div' a b (fun e => unhide HPR (Rat.num_eq_zero.1 e))).mul c).mono (by decide)
    rw [hFF, unhide HFL] at HRF
    rw [hSS, unhide HFL] at HRG
    clear hbb HSI hFF hSS hfc hgc
    obtain ⟨wb0, hwb0⟩ : ∃ W, wb = W := ⟨_, rfl⟩
    rw [hwb0] at HBB0 HB30 HXA HRF HRG ⊢
    clear hwb0
    go_wp2_with fail
    clear e1 e2
    go_loopw [12] (fun vt wr => ∃ t : Nat, vt = .int .i64 (t : Int) ∧ t ≤ T ∧ Below wb0.heap.size wb0 wr) (fun vt _ => T - (intOf vt).toNat)
    case atStart => exact ⟨0, rfl, Nat.zero_le _, Below.refl _ _⟩
    case round =>
      obtain ⟨t, rfl, ht, hb⟩ := hrel
      have HBT := hide hb
      by_cases hlt : t < T
      · have f1 : (t : Int) < (T : Int) := by omega
        have f0 : (0 : Int) ≤ (t : Int) := by omega
        have hml : t < (mrows T nf FF).length := by rw [mrows_length]; exact hlt
        obtain ⟨bf_, of_, mf, hfa, hbf, k0, hLF⟩ := ((unhide HRF : RowsAre wb0 (Sl.val (af, T, cpf)) _).below hb).at hml
        have hml2 : t < (mrows T nf SS).length := by rw [mrows_length]; exact hlt
        obtain ⟨bg_, og_, mg, hga, hbg, g0, hLG⟩ := ((unhide HRG : RowsAre wb0 (Sl.val (ag, T, cpg)) _).below hb).at hml2
        have hfa : af = some ⟨bf_, of_, none⟩ := hfa
        have hga : ag = some ⟨bg_, og_, none⟩ := hga
        rw [mrows_get hlt] at hLF hLG
        have HSF : Hid (Calls Tryz.prog 22 #[.slice mf.a mf.n mf.c] wr fun e w' => ∃ v, e = .returned v ∧ RatIs w' v 1 ∧ Below wr.heap.size wr w') := by
          have := fsum_any mf.val (row (FF t) nf) 14000000 wr hLF (fun j hj => by
            rw [row_length] at hj
            rw [row_get hj]; exact unhide HFR t j hlt hj) (by rw [row_length, KKe]; omega)
          rw [row_length, qsum_row _ _ nf (Nat.le_refl _), unhide HFF1 t hlt] at this
          exact this
        have HSGG : Hid (∀ W, Below wr.heap.size wr W → Calls Tryz.prog 22 #[.slice mg.a mg.n mg.c] W fun e w' => ∃ v, e = .returned v ∧ RatIs w' v 1 ∧ Below W.heap.size W w') := fun W hW => by
          have := fsum_any mg.val (row (SS t) nf) 14000000 W (hLG.below hW) (fun j hj => by
            rw [row_length] at hj
            rw [row_get hj]; exact unhide HSR t j hlt hj) (by rw [row_length, KKe]; omega)
          rw [row_length, qsum_row _ _ nf (Nat.le_refl _), unhide HSS1 t hlt] at this
          exact this
        have HG0 : Hid (∀ W, Below wr.heap.size wr W → W.cell? ⟨bg_, og_ + t, none⟩ = some (.slice mg.a mg.n mg.c)) := fun W hW => by rw [hW.cell (p := ⟨bg_, og_ + t, none⟩) hbg]; exact g0
        have HLK : Hid (∀ (W : World) (va vb : Value), Below wr.heap.size wr W → RatIs W va 1 → RatIs W vb ((1 : Int) : Rat) → Calls Tryz.prog 21 #[va, vb] W fun e w' => e = .returned (.bool true) ∧ Below W.heap.size W w') := fun W va vb hW h1 h2 => like_any va vb 1 W h1 h2 1 one_RS' (by rw [KKe]; omega) (tab_below (unhide HTB) (below_step (below_step (unhide HBB0) (unhide HBT)) hW))
        rw [hfa, hga]
        clear hb hml hml2 hfa hbf hLF hga hbg hLG g0
        go_wp2_with fail
        clear k0
        refine (unhide HSF).mono ?_
        rintro e u1 ⟨v1, rfl, hv1, hb1⟩
        go_wp2_with fail
        refine (whole_any 1 (by decide) (by decide) u1).mono ?_
        rintro e u2 ⟨v2, rfl, hv2, hb2⟩
        have HL1 := hide (unhide HLK u2 v1 v2 (below_step hb1 hb2) (hv1.below hb2) hv2)
        obtain ⟨t1, rfl, -⟩ := tri_of hv1
        obtain ⟨t2, rfl, -⟩ := tri_of hv2
        simp only [Tri.val] at HL1 ⊢
        have HU2 := hide (below_step hb1 hb2)
        clear hv1 hv2 hb1 hb2 HSF
        go_wp2_with fail
        refine (unhide HL1).mono ?_
        rintro e u3 ⟨rfl, hb3⟩
        have HU3 := hide (below_step (unhide HU2) hb3)
        have g0 := unhide HG0 _ (unhide HU3)
        have HS3 := hide (unhide HSGG _ (unhide HU3))
        clear hb3 HU2 HL1
        go_wp2_with fail
        clear g0
        refine (unhide HS3).mono ?_
        rintro e u4 ⟨v4, rfl, hv4, hb4⟩
        go_wp2_with fail
        refine (whole_any 1 (by decide) (by decide) u4).mono ?_
        rintro e u5 ⟨v5, rfl, hv5, hb5⟩
        have HU5 := hide (below_step (below_step (unhide HU3) hb4) hb5)
        have HL5 := hide (unhide HLK u5 v4 v5 (unhide HU5) (hv4.below hb5) hv5)
        obtain ⟨t4, rfl, -⟩ := tri_of hv4
        obtain ⟨t5, rfl, -⟩ := tri_of hv5
        simp only [Tri.val] at HL5 ⊢
        clear hv4 hv5 hb4 hb5 HS3 HU3
        go_wp2_with fail
        refine (unhide HL5).mono ?_
        rintro e u6 ⟨rfl, hb6⟩
        have HU6 := hide (below_step (unhide HBT) (below_step (unhide HU5) hb6))
        clear hb6 HU5 HL5
        go_wp2_with fail
        exact ⟨⟨t + 1, by go_num, hlt, unhide HU6⟩, by simp [intOf]; omega⟩
      · obtain rfl : t = T := by omega
        have f1 : ¬ (t : Int) < (t : Int) := by omega
        have HKG : Hid (∀ W, Below wb0.heap.size wb0 W → Below W3.heap.size W3 W) := fun W hW => below_step (unhide HB30) hW
        clear hb
        go_wp2_with fail
        by_cases hT0 : t = 0
        case' pos =>
          have e1 : ¬ 0 < t := by omega
          have e2 : decide (0 < t) = false := decide_eq_false e1
          have HTR : Hid (∀ W : World, Below wr.heap.size wr W → (fun _ : World => True) W) := fun _ _ => trivial
          clear hT0
          refine wp_region_hold (fun _ : World => True) (by kernel_rfl) ?_
          have bd0 : Below wr.heap.size wr wr.drew := (Below.refl _ _).drew
          have hC0 : (fun _ : World => True) wr.drew := unhide HTR _ bd0
          refine wpHold_take (i := 0) (v := ?_) rfl (by kernel_rfl) (by kernel_rfl) (by kernel_rfl) (fun _ _ _ h => h) (Or.inl ⟨by rfl, ?_⟩) hC0 ?_
          rotate_left
          · intro w hSw; clear hSw; go_simp; (try with_reducible rfl)
          (try simp only [List.getElem_toArray, List.getElem_cons_succ, List.getElem_cons_zero])
          (try simp only [Act.put, List.setIfInBounds_toArray, List.set_cons_zero, List.set_cons_succ])
          refine wpHold_take (i := 1) (v := ?_) rfl (by kernel_rfl) (by kernel_rfl) (by kernel_rfl) (fun _ _ _ h => h) (Or.inl ⟨by rfl, ?_⟩) hC0 ?_
          rotate_left
          · intro w hSw; clear hSw; go_simp; (try with_reducible rfl)
          (try simp only [List.getElem_toArray, List.getElem_cons_succ, List.getElem_cons_zero])
          (try simp only [Act.put, List.setIfInBounds_toArray, List.set_cons_zero, List.set_cons_succ])
          refine wpHold_take (i := 2) (v := ?_) rfl (by kernel_rfl) (by kernel_rfl) (by kernel_rfl) (fun _ _ _ h => h) (Or.inl ⟨by rfl, ?_⟩) hC0 ?_
          rotate_left
          · intro w hSw; clear hSw; go_simp; (try with_reducible rfl)
          (try simp only [List.getElem_toArray, List.getElem_cons_succ, List.getElem_cons_zero])
          (try simp only [Act.put, List.setIfInBounds_toArray, List.set_cons_zero, List.set_cons_succ])
          refine wpHold_take (i := 3) (v := undef) rfl (by kernel_rfl) (by kernel_rfl) (by kernel_rfl) (fun _ _ _ h => h) (Or.inr ⟨by rfl, rfl⟩) hC0 ?_
          (try simp only [List.getElem_toArray, List.getElem_cons_succ, List.getElem_cons_zero])
          (try simp only [Act.put, List.setIfInBounds_toArray, List.set_cons_zero, List.set_cons_succ])
          refine wpHold_take (i := 4) (v := undef) rfl (by kernel_rfl) (by kernel_rfl) (by kernel_rfl) (fun _ _ _ h => h) (Or.inr ⟨by rfl, rfl⟩) hC0 ?_
          (try simp only [List.getElem_toArray, List.getElem_cons_succ, List.getElem_cons_zero])
          (try simp only [Act.put, List.setIfInBounds_toArray, List.set_cons_zero, List.set_cons_succ])
          refine wpHold_take (i := 5) (v := undef) rfl (by kernel_rfl) (by kernel_rfl) (by kernel_rfl) (fun _ _ _ h => h) (Or.inr ⟨by rfl, rfl⟩) hC0 ?_
          (try simp only [List.getElem_toArray, List.getElem_cons_succ, List.getElem_cons_zero])
          (try simp only [Act.put, List.setIfInBounds_toArray, List.set_cons_zero, List.set_cons_succ])
          refine wpHold_take (i := 6) (v := undef) rfl (by kernel_rfl) (by kernel_rfl) (by kernel_rfl) (fun _ _ _ h => h) (Or.inr ⟨by rfl, rfl⟩) hC0 ?_
          (try simp only [List.getElem_toArray, List.getElem_cons_succ, List.getElem_cons_zero])
          (try simp only [Act.put, List.setIfInBounds_toArray, List.set_cons_zero, List.set_cons_succ])
          refine wpHold_take (i := 7) (v := undef) rfl (by kernel_rfl) (by kernel_rfl) (by kernel_rfl) (fun _ _ _ h => h) (Or.inr ⟨by rfl, rfl⟩) hC0 ?_
          (try simp only [List.getElem_toArray, List.getElem_cons_succ, List.getElem_cons_zero])
          (try simp only [Act.put, List.setIfInBounds_toArray, List.set_cons_zero, List.set_cons_succ])
          refine wpHold_take (i := 8) (v := undef) rfl (by kernel_rfl) (by kernel_rfl) (by kernel_rfl) (fun _ _ _ h => h) (Or.inr ⟨by rfl, rfl⟩) hC0 ?_
          (try simp only [List.getElem_toArray, List.getElem_cons_succ, List.getElem_cons_zero])
          (try simp only [Act.put, List.setIfInBounds_toArray, List.set_cons_zero, List.set_cons_succ])
          refine wpHold_take (i := 9) (v := undef) rfl (by kernel_rfl) (by kernel_rfl) (by kernel_rfl) (fun _ _ _ h => h) (Or.inr ⟨by rfl, rfl⟩) hC0 ?_
          (try simp only [List.getElem_toArray, List.getElem_cons_succ, List.getElem_cons_zero])
          (try simp only [Act.put, List.setIfInBounds_toArray, List.set_cons_zero, List.set_cons_succ])
          refine wpHold_take (i := 10) (v := undef) rfl (by kernel_rfl) (by kernel_rfl) (by kernel_rfl) (fun _ _ _ h => h) (Or.inr ⟨by rfl, rfl⟩) hC0 ?_
          (try simp only [List.getElem_toArray, List.getElem_cons_succ, List.getElem_cons_zero])
          (try simp only [Act.put, List.setIfInBounds_toArray, List.set_cons_zero, List.set_cons_succ])
          refine wpHold_take (i := 11) (v := undef) rfl (by kernel_rfl) (by kernel_rfl) (by kernel_rfl) (fun _ _ _ h => h) (Or.inr ⟨by rfl, rfl⟩) hC0 ?_
          (try simp only [List.getElem_toArray, List.getElem_cons_succ, List.getElem_cons_zero])
          (try simp only [Act.put, List.setIfInBounds_toArray, List.set_cons_zero, List.set_cons_succ])
          refine wpHold_take (i := 12) (v := undef) rfl (by kernel_rfl) (by kernel_rfl) (by kernel_rfl) (fun _ _ _ h => h) (Or.inr ⟨by rfl, rfl⟩) hC0 ?_
          (try simp only [List.getElem_toArray, List.getElem_cons_succ, List.getElem_cons_zero])
          (try simp only [Act.put, List.setIfInBounds_toArray, List.set_cons_zero, List.set_cons_succ])
          refine wpHold_take (i := 13) (v := undef) rfl (by kernel_rfl) (by kernel_rfl) (by kernel_rfl) (fun _ _ _ h => h) (Or.inr ⟨by rfl, rfl⟩) hC0 ?_
          (try simp only [List.getElem_toArray, List.getElem_cons_succ, List.getElem_cons_zero])
          (try simp only [Act.put, List.setIfInBounds_toArray, List.set_cons_zero, List.set_cons_succ])
          refine wpHold_take (i := 14) (v := undef) rfl (by kernel_rfl) (by kernel_rfl) (by kernel_rfl) (fun _ _ _ h => h) (Or.inr ⟨by rfl, rfl⟩) hC0 ?_
          (try simp only [List.getElem_toArray, List.getElem_cons_succ, List.getElem_cons_zero])
          (try simp only [Act.put, List.setIfInBounds_toArray, List.set_cons_zero, List.set_cons_succ])
          refine wpHold_take (i := 15) (v := ?_) rfl (by kernel_rfl) (by kernel_rfl) (by kernel_rfl) (fun _ _ _ h => h) (Or.inl ⟨by rfl, ?_⟩) hC0 ?_
          rotate_left
          · intro w hSw; clear hSw; go_simp; (try with_reducible rfl)
          (try simp only [List.getElem_toArray, List.getElem_cons_succ, List.getElem_cons_zero])
          (try simp only [Act.put, List.setIfInBounds_toArray, List.set_cons_zero, List.set_cons_succ])
          refine wpHold_done (by kernel_rfl) ?_ _
          obtain ⟨wt, hwt⟩ : ∃ W, wr.drew = W := ⟨_, rfl⟩
          have HC19 : Hid (Below wb0.heap.size wb0 wt) := by show Below wb0.heap.size wb0 wt; rw [← hwt]; exact below_step (unhide HBT) bd0
          rw [hwt]
          clear bd0 hC0 hwt HTR e1 e2
        case' neg =>
          obtain ⟨u, hu⟩ : ∃ u, t = u + 1 := ⟨t - 1, by omega⟩
          have e1 : 0 < t := by omega
          have e2 : decide (0 < t) = true := decide_eq_true e1
          have e3 : IntKind.i64.wrap ((t : Int) - 1) = (u : Int) := by rw [IntKind.wrap_i64]; omega
          have u1 : (u : Int) < (t : Int) := by omega
          have u0' : (0 : Int) ≤ (u : Int) := by omega
          have hml : u < (mrows t nf FF).length := by rw [mrows_length]; omega
          obtain ⟨bf_, of_, mf, hfa, hbf, k0, hLF⟩ := ((unhide HRF : RowsAre wb0 (Sl.val (af, t, cpf)) _).below (unhide HBT)).at hml
          have hml2 : u < (mrows t nf SS).length := by rw [mrows_length]; omega
          obtain ⟨bg_, og_, mg, hga, hbg, g0, hLG⟩ := ((unhide HRG : RowsAre wb0 (Sl.val (ag, t, cpg)) _).below (unhide HBT)).at hml2
          have hfa : af = some ⟨bf_, of_, none⟩ := hfa
          have hga : ag = some ⟨bg_, og_, none⟩ := hga
          rw [mrows_get (by omega)] at hLF hLG
          rw [← unhide HLS u hu] at hLG
          have HLKS : Hid (∀ W, Below wr.heap.size wr W → Calls Tryz.prog 23 #[.slice mf.a mf.n mf.c, .slice mg.a mg.n mg.c] W fun e w' => e = .returned (.bool true) ∧ Below W.heap.size W w') := fun W hW => likes_any mf.val mg.val (row (FF u) nf) W (hLF.below hW) (hLG.below hW) 14000000 (by rw [KKe]; omega) (fun j hj => by
            rw [row_length] at hj
            rw [row_get hj]; exact unhide HFR u j (by omega) hj) (tab_below (unhide HTB) (below_step (below_step (unhide HBB0) (unhide HBT)) hW))
          have HC19c : Hid (∀ W, Below wr.heap.size wr W → (fun w' : World => w'.cell? ⟨bf_, of_ + u, none⟩ = some (.slice mf.a mf.n mf.c) ∧ w'.cell? ⟨bg_, og_ + u, none⟩ = some (.slice mg.a mg.n mg.c)) W) := fun W hW => ⟨by rw [hW.cell (p := ⟨bf_, of_ + u, none⟩) hbf]; exact k0, by rw [hW.cell (p := ⟨bg_, og_ + u, none⟩) hbg]; exact g0⟩
          rw [hfa, hga]
          clear hml hml2 hfa hbf k0 hLF hga hbg g0 hLG hT0 hu
          refine wp_region_hold (fun w' : World => w'.cell? ⟨bf_, of_ + u, none⟩ = some (.slice mf.a mf.n mf.c) ∧ w'.cell? ⟨bg_, og_ + u, none⟩ = some (.slice mg.a mg.n mg.c)) (by kernel_rfl) ?_
          have bd0 : Below wr.heap.size wr wr.drew := (Below.refl _ _).drew
          have hC0 : (fun w' : World => w'.cell? ⟨bf_, of_ + u, none⟩ = some (.slice mf.a mf.n mf.c) ∧ w'.cell? ⟨bg_, og_ + u, none⟩ = some (.slice mg.a mg.n mg.c)) wr.drew := unhide HC19c _ bd0
          refine wpHold_take (i := 0) (v := ?_) rfl (by kernel_rfl) (by kernel_rfl) (by kernel_rfl) (fun _ _ _ h => h) (Or.inl ⟨by rfl, ?_⟩) hC0 ?_
          rotate_left
          · intro w hSw; clear hSw; go_simp; (try with_reducible rfl)
          (try simp only [List.getElem_toArray, List.getElem_cons_succ, List.getElem_cons_zero])
          (try simp only [Act.put, List.setIfInBounds_toArray, List.set_cons_zero, List.set_cons_succ])
          refine wpHold_take (i := 1) (v := ?_) rfl (by kernel_rfl) (by kernel_rfl) (by kernel_rfl) (fun _ _ _ h => h) (Or.inl ⟨by rfl, ?_⟩) hC0 ?_
          rotate_left
          · intro w hSw; clear hSw; go_simp; (try with_reducible rfl)
          (try simp only [List.getElem_toArray, List.getElem_cons_succ, List.getElem_cons_zero])
          (try simp only [Act.put, List.setIfInBounds_toArray, List.set_cons_zero, List.set_cons_succ])
          refine wpHold_take (i := 2) (v := ?_) rfl (by kernel_rfl) (by kernel_rfl) (by kernel_rfl) (fun _ _ _ h => h) (Or.inl ⟨by rfl, ?_⟩) hC0 ?_
          rotate_left
          · intro w hSw; clear hSw; go_simp; (try with_reducible rfl)
          (try simp only [List.getElem_toArray, List.getElem_cons_succ, List.getElem_cons_zero])
          (try simp only [Act.put, List.setIfInBounds_toArray, List.set_cons_zero, List.set_cons_succ])
          refine wpHold_take (i := 3) (v := ?_) rfl (by kernel_rfl) (by kernel_rfl) (by kernel_rfl) (fun _ _ _ h => h) (Or.inl ⟨by rfl, ?_⟩) hC0 ?_
          rotate_left
          · intro w hSw; clear hSw; go_simp; (try with_reducible rfl)
          (try simp only [List.getElem_toArray, List.getElem_cons_succ, List.getElem_cons_zero])
          (try simp only [Act.put, List.setIfInBounds_toArray, List.set_cons_zero, List.set_cons_succ])
          refine wpHold_take (i := 4) (v := ?_) rfl (by kernel_rfl) (by kernel_rfl) (by kernel_rfl) (fun _ _ _ h => h) (Or.inl ⟨by rfl, ?_⟩) hC0 ?_
          rotate_left
          · intro w hSw; clear hSw; go_simp; (try with_reducible rfl)
          (try simp only [List.getElem_toArray, List.getElem_cons_succ, List.getElem_cons_zero])
          (try simp only [Act.put, List.setIfInBounds_toArray, List.set_cons_zero, List.set_cons_succ])
          refine wpHold_take (i := 5) (v := ?_) rfl (by kernel_rfl) (by kernel_rfl) (by kernel_rfl) (fun _ _ _ h => h) (Or.inl ⟨by rfl, ?_⟩) hC0 ?_
          rotate_left
          · intro w hSw; clear hSw; go_simp; (try with_reducible rfl)
          (try simp only [List.getElem_toArray, List.getElem_cons_succ, List.getElem_cons_zero])
          (try simp only [Act.put, List.setIfInBounds_toArray, List.set_cons_zero, List.set_cons_succ])
          refine wpHold_take (i := 6) (v := ?_) rfl (by kernel_rfl) (by kernel_rfl) (by kernel_rfl) (fun _ _ _ h => h) (Or.inl ⟨by rfl, ?_⟩) hC0 ?_
          rotate_left
          · intro w hSw; clear hSw; go_simp; (try with_reducible rfl)
          (try simp only [List.getElem_toArray, List.getElem_cons_succ, List.getElem_cons_zero])
          (try simp only [Act.put, List.setIfInBounds_toArray, List.set_cons_zero, List.set_cons_succ])
          refine wpHold_take (i := 7) (v := ?_) rfl (by kernel_rfl) (by kernel_rfl) (by kernel_rfl) (fun _ _ _ h => h) (Or.inl ⟨by rfl, ?_⟩) hC0 ?_
          rotate_left
          · intro w hSw; (try dsimp only at hSw); obtain ⟨u0, u1_⟩ := hSw; go_simp; (try with_reducible rfl)
          (try simp only [List.getElem_toArray, List.getElem_cons_succ, List.getElem_cons_zero])
          (try simp only [Act.put, List.setIfInBounds_toArray, List.set_cons_zero, List.set_cons_succ])
          refine wpHold_take (i := 8) (v := ?_) rfl (by kernel_rfl) (by kernel_rfl) (by kernel_rfl) (fun _ _ _ h => h) (Or.inl ⟨by rfl, ?_⟩) hC0 ?_
          rotate_left
          · intro w hSw; clear hSw; go_simp; (try with_reducible rfl)
          (try simp only [List.getElem_toArray, List.getElem_cons_succ, List.getElem_cons_zero])
          (try simp only [Act.put, List.setIfInBounds_toArray, List.set_cons_zero, List.set_cons_succ])
          refine wpHold_take (i := 9) (v := ?_) rfl (by kernel_rfl) (by kernel_rfl) (by kernel_rfl) (fun _ _ _ h => h) (Or.inl ⟨by rfl, ?_⟩) hC0 ?_
          rotate_left
          · intro w hSw; clear hSw; go_simp; (try with_reducible rfl)
          (try simp only [List.getElem_toArray, List.getElem_cons_succ, List.getElem_cons_zero])
          (try simp only [Act.put, List.setIfInBounds_toArray, List.set_cons_zero, List.set_cons_succ])
          refine wpHold_take (i := 10) (v := ?_) rfl (by kernel_rfl) (by kernel_rfl) (by kernel_rfl) (fun _ _ _ h => h) (Or.inl ⟨by rfl, ?_⟩) hC0 ?_
          rotate_left
          · intro w hSw; clear hSw; go_simp; (try with_reducible rfl)
          (try simp only [List.getElem_toArray, List.getElem_cons_succ, List.getElem_cons_zero])
          (try simp only [Act.put, List.setIfInBounds_toArray, List.set_cons_zero, List.set_cons_succ])
          refine wpHold_take (i := 11) (v := ?_) rfl (by kernel_rfl) (by kernel_rfl) (by kernel_rfl) (fun _ _ _ h => h) (Or.inl ⟨by rfl, ?_⟩) hC0 ?_
          rotate_left
          · intro w hSw; clear hSw; go_simp; (try with_reducible rfl)
          (try simp only [List.getElem_toArray, List.getElem_cons_succ, List.getElem_cons_zero])
          (try simp only [Act.put, List.setIfInBounds_toArray, List.set_cons_zero, List.set_cons_succ])
          refine wpHold_take (i := 12) (v := ?_) rfl (by kernel_rfl) (by kernel_rfl) (by kernel_rfl) (fun _ _ _ h => h) (Or.inl ⟨by rfl, ?_⟩) hC0 ?_
          rotate_left
          · intro w hSw; (try dsimp only at hSw); obtain ⟨u0, u1_⟩ := hSw; go_simp; (try with_reducible rfl)
          (try simp only [List.getElem_toArray, List.getElem_cons_succ, List.getElem_cons_zero])
          (try simp only [Act.put, List.setIfInBounds_toArray, List.set_cons_zero, List.set_cons_succ])
          refine wpHold_one (k := 13) (by kernel_rfl) rfl (fun K hK => ?_)
          (try simp only [List.getElem_toArray, List.getElem_cons_succ, List.getElem_cons_zero])
          go_simp
          refine (unhide HLKS _ bd0).mono ?_
          rintro e xw_1 ⟨rfl, hb_1⟩
          have cc_1 := below_step bd0 hb_1
          have hC_1 : (fun w' : World => w'.cell? ⟨bf_, of_ + u, none⟩ = some (.slice mf.a mf.n mf.c) ∧ w'.cell? ⟨bg_, og_ + u, none⟩ = some (.slice mg.a mg.n mg.c)) xw_1 := unhide HC19c _ cc_1
          refine hK.out _ _ hC_1 ?_
          clear hK K
          (try simp only [Act.put, List.setIfInBounds_toArray, List.set_cons_zero, List.set_cons_succ])
          refine wpHold_take (i := 14) (v := ?_) rfl (by kernel_rfl) (by kernel_rfl) (by kernel_rfl) (fun _ _ _ h => h) (Or.inl ⟨by rfl, ?_⟩) hC_1 ?_
          rotate_left
          · intro w hSw; clear hSw; go_simp; (try with_reducible rfl)
          (try simp only [List.getElem_toArray, List.getElem_cons_succ, List.getElem_cons_zero])
          (try simp only [Act.put, List.setIfInBounds_toArray, List.set_cons_zero, List.set_cons_succ])
          refine wpHold_take (i := 15) (v := ?_) rfl (by kernel_rfl) (by kernel_rfl) (by kernel_rfl) (fun _ _ _ h => h) (Or.inl ⟨by rfl, ?_⟩) hC_1 ?_
          rotate_left
          · intro w hSw; clear hSw; go_simp; (try with_reducible rfl)
          (try simp only [List.getElem_toArray, List.getElem_cons_succ, List.getElem_cons_zero])
          (try simp only [Act.put, List.setIfInBounds_toArray, List.set_cons_zero, List.set_cons_succ])
          refine wpHold_done (by kernel_rfl) ?_ _
          obtain ⟨wt, hwt⟩ : ∃ W, xw_1 = W := ⟨_, rfl⟩
          have HC19 : Hid (Below wb0.heap.size wb0 wt) := by show Below wb0.heap.size wb0 wt; rw [← hwt]; exact below_step (unhide HBT) cc_1
          rw [hwt]
          clear bd0 hC0 hC_1 cc_1 hb_1 hwt HC19c HLKS e1 e2 e3 u1 u0'
        all_goals (
          clear HBT
          go_wp2_with fail
          refine (whole_any 0 (by decide) (by decide) wt).mono ?_
          rintro e w7 ⟨v7, rfl, hv7, hb7_⟩
          obtain ⟨t7, rfl, r7⟩ := tri_of hv7
          simp only [Tri.val]
          have bA_ := alloc_below w7 (.cells #[.bool t7.s, .slice t7.a1 t7.n1 t7.c1, .slice t7.a2 t7.n2 t7.c2] 26)
          have X7 := BoxIs.new r7
          obtain ⟨WS, hWS⟩ : ∃ W, w7.alloc (.cells #[.bool t7.s, .slice t7.a1 t7.n1 t7.c1, .slice t7.a2 t7.n2 t7.c2] 26) = W := ⟨_, rfl⟩
          obtain ⟨bA, hbA⟩ : ∃ b, w7.heap.size = b := ⟨_, rfl⟩
          have HGA : Hid (wb0.heap.size ≤ bA) := by show _ ≤ bA; rw [← hbA]; exact (below_step (unhide HC19) hb7_).size
          rw [hWS] at bA_ X7
          rw [hbA] at X7
          have HBS := hide (below_step (unhide HC19) (below_step hb7_ bA_))
          have HXS := hide X7
          clear hv7 hb7_ r7 bA_ X7 HC19
          go_wp2_with fail
          clear hWS hbA
          have HGL := hide (unhide HGM).gl
          obtain ⟨bh, oh, mh, hca, hbh, h0_, hLH⟩ := ((unhide HX7).2.2.2.below (unhide HB30)).at (i := 0) (by rw [(unhide HGM).gl]; exact (unhide HGM).n1)
          have hmn : mh.n = (G[0]!).length := by
            obtain ⟨a_, c_, e_, _⟩ := hLH
            injection e_
          have hgn : ng = G.length := by
            obtain ⟨a_, c_, e_, _⟩ := (unhide HX7).2.2.2
            have e1_ : cg.n = G.length := by injection e_
            have e2_ := unhide HCV
            unfold hmval at e2_
            injection e2_ with e2_
            simp only [Array.mk.injEq, List.cons.injEq, Value.slice.injEq] at e2_
            omega
          have hng0 : 0 < ng := by rw [hgn, unhide HGL]; exact (unhide HGM).n1
          obtain ⟨K, hK⟩ : ∃ K, (G[0]!).length = K := ⟨_, rfl⟩
          have hK8 : K ≤ 8 := by rw [← hK]; exact (unhide HGM).k8
          have HK := hide hK
          rw [hK] at hmn
          have HCH : Hid (∀ W, Below wb0.heap.size wb0 W → W.cell? ⟨bh, oh, none⟩ = some (.slice mh.a K mh.c)) := fun W hW => by rw [hW.cell (p := ⟨bh, oh, none⟩) hbh]; rw [← hmn]; exact h0_
          have HCA := hide hca
          clear hca hbh h0_ hLH hmn hgn hK
          go_loopw [15] (fun vk wv => ∃ (k : Nat) (ta : Tri), vk = .int .i64 (k : Int) ∧ k ≤ K ∧ BoxIs wv bA ta (Bth.ps (fun k => Blf.seen (hm fs P G) (Blf.snoc (sOf f) t k) (t + 1)) k) ∧ Below wb0.heap.size wb0 wv) (fun vk _ => K - (intOf vk).toNat)
          case atStart => exact ⟨0, t7, rfl, Nat.zero_le _, unhide HXS, unhide HBS⟩
          case round =>
            obtain ⟨k, ta, rfl, hk, hxa, hbv⟩ := hrel
            have ⟨j0, j1, j2⟩ := unhide HC7 _ (unhide HKG _ hbv)
            rw [unhide HCA] at j2
            have c0 := unhide HCH _ hbv
            have g1 : (0 : Int) < (ng : Int) := by omega
            have HXV := hide hxa
            have HBV := hide hbv
            clear hxa hbv
            by_cases hlt2 : k < K
            · have f2 : (k : Int) < (K : Int) := by omega
              go_wp2_with fail
              have HSNR : Hid (∀ j, j < K → RS (Blf.seen (hm fs P G) (Blf.snoc (sOf f) t j) (t + 1)) 100000000) := fun j hj => by
                rw [← seen_more f t j]
                refine (seen_RS (unhide HGM) (unhide HSM) (fun i hi => ?_) (by omega)).mono (by omega)
                have hsl := unhide HSL
                by_cases e : i = t
                · rw [e]; unfold sOf fmore; rw [if_pos rfl, unhide HK]; omega
                · have h2 := hsl i (by omega)
                  unfold sOf at h2 ⊢
                  unfold fmore
                  rw [if_neg e]; exact h2
              have HPSR : Hid (∀ j, j ≤ K → RS (Bth.ps (fun k => Blf.seen (hm fs P G) (Blf.snoc (sOf f) t k) (t + 1)) j) 100000000) := fun j hj => by
                refine (ps8_RS (J := 11000000) (n := j) (by omega) (fun i hi => ?_)).mono (by omega)
                rw [← seen_more f t i]
                refine (seen_RS (unhide HGM) (unhide HSM) (fun i2 hi2 => ?_) (by omega))
                have hsl := unhide HSL
                by_cases e : i2 = t
                · rw [e]; unfold sOf fmore; rw [if_pos rfl, unhide HK]; omega
                · have h2 := hsl i2 (by omega)
                  unfold sOf at h2 ⊢
                  unfold fmore
                  rw [if_neg e]; exact h2
              have HCC : Hid (∀ W, Below wr.heap.size wr W → (fun w' : World => w'.cell? ⟨b7, 0, none⟩ = some (.slice cf.a nf cf.c) ∧ w'.cell? ⟨b7, 1, none⟩ = some (.slice cp.a np cp.c) ∧ w'.cell? ⟨b7, 2, none⟩ = some (.slice cg.a ng cg.c)) W) := fun W hW => unhide HC7 _ (unhide HKG _ (below_step (unhide HBV) hW))
              clear j0 j1 j2 c0
              refine wp_region_hold (fun w' : World => w'.cell? ⟨b7, 0, none⟩ = some (.slice cf.a nf cf.c) ∧ w'.cell? ⟨b7, 1, none⟩ = some (.slice cp.a np cp.c) ∧ w'.cell? ⟨b7, 2, none⟩ = some (.slice cg.a ng cg.c)) (by kernel_rfl) ?_
              have bd0 : Below wr.heap.size wr wr.drew := (Below.refl _ _).drew
              obtain ⟨Wx, hWx⟩ : ∃ W, wr.drew = W := ⟨_, rfl⟩
              rw [hWx] at bd0 ⊢
              have hC0 : (fun w' : World => w'.cell? ⟨b7, 0, none⟩ = some (.slice cf.a nf cf.c) ∧ w'.cell? ⟨b7, 1, none⟩ = some (.slice cp.a np cp.c) ∧ w'.cell? ⟨b7, 2, none⟩ = some (.slice cg.a ng cg.c)) Wx := unhide HCC _ bd0
              refine wpHold_take (i := 0) (v := ?_) rfl (by kernel_rfl) (by kernel_rfl) (by kernel_rfl) (fun _ _ _ h => h) (Or.inl ⟨by rfl, ?_⟩) hC0 ?_
              rotate_left
              · intro w hSw; (try dsimp only at hSw); obtain ⟨z0, z1, z2⟩ := hSw; go_simp; (try with_reducible rfl)
              (try simp only [List.getElem_toArray, List.getElem_cons_succ, List.getElem_cons_zero])
              (try simp only [Act.put, List.setIfInBounds_toArray, List.set_cons_zero, List.set_cons_succ])
              refine wpHold_take (i := 2) (v := ?_) rfl (by kernel_rfl) (by kernel_rfl) (by kernel_rfl) (fun _ _ _ h => h) (Or.inl ⟨by rfl, ?_⟩) hC0 ?_
              rotate_left
              · intro w hSw; clear hSw; go_simp; (try with_reducible rfl)
              (try simp only [List.getElem_toArray, List.getElem_cons_succ, List.getElem_cons_zero])
              (try simp only [Act.put, List.setIfInBounds_toArray, List.set_cons_zero, List.set_cons_succ])
              refine wpHold_take (i := 4) (v := ?_) rfl (by kernel_rfl) (by kernel_rfl) (by kernel_rfl) (fun _ _ _ h => h) (Or.inl ⟨by rfl, ?_⟩) hC0 ?_
              rotate_left
              · intro w hSw; clear hSw; go_simp; (try with_reducible rfl)
              (try simp only [List.getElem_toArray, List.getElem_cons_succ, List.getElem_cons_zero])
              (try simp only [Act.put, List.setIfInBounds_toArray, List.set_cons_zero, List.set_cons_succ])
              refine wpHold_listed (n := 11) (L' := (fun s : Nat × Bool × Bool => #[true, decide (1 ≤ s.1), true, decide (2 ≤ s.1), true, s.2.1, decide (3 ≤ s.1), decide (4 ≤ s.1), false, false, false, s.2.2, false, false]) (0, false, false)) (by kernel_rfl) (by kernel_rfl) ?_
              refine wpHold_name (fun a0 ha0 => ?_)
              refine chain25_any (fun s : Nat × Bool × Bool => #[true, decide (1 ≤ s.1), true, decide (2 ≤ s.1), true, s.2.1, decide (3 ≤ s.1), decide (4 ≤ s.1), false, false, false, s.2.2, false, false]) (fun c b l na W => ∃ s1 s2 s3 s4 s5 s6, na = (((((a0.put (some 175) s1).put (some 177) s2).put (some 179) s3).put (some 180) s4).put (some 181) s5).put (some 16) s6 ∧ SgJ t k f (Blf.seen (hm fs P G) (Blf.snoc (sOf f) t k) (t + 1)) Wx c b l W s1 s2 s3 s4 s5 s6) ?_ ?_ ?_ ?_ ?_ ?_ ?_ ?_ ?_ _ _ ⟨u175, u177, u179, u180, u181, u16, by subst ha0; rfl, Below.refl _ _, fun h => absurd h (by decide), fun h => absurd h (by decide), fun h => absurd h (by decide), fun h => absurd h (by decide), fun h => absurd h (by decide), fun h => absurd h (by decide), fun h => absurd h (by decide)⟩
              · clear ha0
                rintro ⟨c, b, l⟩ hc
                match c, hc with
                | 0, _ => cases b <;> cases l <;> (show (_ : Bool) = _; kernel_rfl)
                | 1, _ => cases b <;> cases l <;> (show (_ : Bool) = _; kernel_rfl)
                | 2, _ => cases b <;> cases l <;> (show (_ : Bool) = _; kernel_rfl)
                | 3, _ => cases b <;> cases l <;> (show (_ : Bool) = _; kernel_rfl)
              · clear ha0
                rintro ⟨c, b, l⟩ hc
                match c, hc with
                | 0, _ => cases b <;> cases l <;> (show (_ : Bool) = _; kernel_rfl)
                | 1, _ => cases b <;> cases l <;> (show (_ : Bool) = _; kernel_rfl)
                | 2, _ => cases b <;> cases l <;> (show (_ : Bool) = _; kernel_rfl)
                | 3, _ => cases b <;> cases l <;> (show (_ : Bool) = _; kernel_rfl)
              · -- 1
                rintro b l na wv ⟨s1, s2, s3, s4, s5, s6, rfl, J⟩
                subst ha0
                refine wpOp_step rfl (fun K hK => ?_)
                (try simp only [Act.put, List.setIfInBounds_toArray, List.set_cons_zero, List.set_cons_succ] at hK ⊢)
                (try simp only [List.getElem_toArray, List.getElem_cons_succ, List.getElem_cons_zero])
                go_simp
                have hb := alloc_below wv (.cells #[] 3)
                exact hK _ _ ⟨unhide HCC _ (below_step bd0 (below_step J.bl hb)), .slice (some ⟨wv.heap.size, 0, none⟩) 0 0, s2, s3, s4, s5, s6, rfl, below_step J.bl hb, fun h => absurd h (by decide), fun _ => ⟨wv.heap.size, rfl, heap_alloc_new wv _, J.bl.size⟩, fun h => absurd h (by decide), fun h _ => by
                  obtain ⟨x_, q1, q2, q3⟩ := J.e3 h (by decide)
                  exact ⟨x_, q1, by rw [hb.block x_ (Array.getElem?_eq_some_iff.1 q2).1]; exact q2, q3⟩, fun h => absurd h (by decide), fun h => absurd h (by decide), fun h => by
                  obtain ⟨x_, q1, q2, q3⟩ := J.al h
                  exact ⟨x_, q1, q2.keep hb, q3⟩⟩
              · -- 3
                rintro b l na wv ⟨s1, s2, s3, s4, s5, s6, rfl, J⟩
                obtain ⟨g1, rfl, k1, l1⟩ := J.e1 rfl
                obtain ⟨ti, hi, hz0, hz1, hz2⟩ := info_parts Tryz.infoI
                have hws : NRow wv (.slice as_ t cs_) t f := unhide HSW _ (unhide HKG _ (below_step (unhide HBV) (below_step bd0 J.bl)))
                obtain ⟨a_, c_, e_, hw1, hw2, hw3⟩ := hws
                injection e_ with e1_ e2_ e3_
                have o1 : wv.ownsRow Wx.heap.size 3 1 (.slice (some ⟨g1, 0, none⟩) 0 0) 0 [] := ⟨rfl, Or.inr ⟨g1, 0, #[], rfl, l1, k1, Nat.le_refl _, by unfold maxLen; omega, rfl, rfl⟩⟩
                have hge := own_int o1 g1 rfl
                subst ha0
                refine wpOp_step rfl (fun K hK => ?_)
                (try simp only [Act.put, List.setIfInBounds_toArray, List.set_cons_zero, List.set_cons_succ] at hK ⊢)
                (try simp only [List.getElem_toArray, List.getElem_cons_succ, List.getElem_cons_zero])
                rw [if_pos]
                rotate_left
                · rfl
                by_cases ht0 : t = 0
                · have ex0 : t = 0 → (Value.slice as_ t cs_) = .slice as_ 0 cs_ := fun e => by rw [e]
                  refine wpo_none (by rfl) (.tmp 175) (.tmp 176) 36 (by rfl) 3 ti Tryz.underlying36 hi _ (by rfl) ⟨g1, 0, none⟩ 0 0 (Nat.le_refl _) (by rfl) as_ cs_ (ex0 ht0) ?_
                  (try simp only [Act.put, List.setIfInBounds_toArray, List.set_cons_zero, List.set_cons_succ])
                  exact hK _ _ ⟨unhide HCC _ (below_step bd0 J.bl), .slice (some ⟨g1, 0, none⟩) 0 0, .slice (some ⟨g1, 0, none⟩) 0 0, s3, s4, s5, s6, rfl, J.bl, fun h => absurd h (by decide), fun h => absurd h (by decide), fun _ => ⟨g1, 0, by rw [ht0], by rw [ht0]; exact o1, fun hb g3 e3 e => by
                    obtain ⟨x_, q1, q2, q3⟩ := J.e3 hb (by decide)
                    rw [q1] at e3
                    injection e3 with e3
                    injection e3 with e3
                    injection e3 with e3
                    rw [← e3] at e
                    rw [← e, k1] at q2
                    injection q2 with q2
                    injection q2 with q2
                    exact absurd (congrArg Array.size q2) (by simp)⟩, fun hb _ => J.e3 hb (by decide), fun h => absurd h (by decide), fun h => absurd h (by decide), J.al⟩
                · obtain ⟨bo, oo, ea_, hlt_, hcell_⟩ := hw3 (by omega)
                  have ex : (Value.slice as_ t cs_) = .slice (some ⟨bo, oo, none⟩) t cs_ := by rw [e1_, ea_]
                  refine wpo_app (by rfl) (.tmp 175) (.tmp 176) (by rfl) ti hi hz0 hz1 hz2 _ (by rfl) Wx.heap.size g1 0 0 [] (by rfl) o1 ⟨bo, oo, none⟩ t cs_ (lrow f t) ex (lrow_length f t) ?_ ?_ (by omega) J.bl.size ?_
                  · intro j u hu
                    by_cases hj : j < t
                    · rw [lrow_get f hj] at hu
                      injection hu with hu
                      subst hu
                      rw [show (⟨bo, oo, none⟩ : Addr).add j = ⟨bo, oo + j, none⟩ from by
                        by_cases e0 : j = 0
                        · subst e0; simp [Addr.add]
                        · simp [Addr.add, e0]]
                      exact hcell_ j hj
                    · rw [List.getElem?_eq_none (by rw [lrow_length]; omega)] at hu
                      cases hu
                  · intro u hu
                    obtain ⟨i, _, rfl⟩ := List.mem_map.1 hu
                    rfl
                  intro g2 cap2 wz o2 grow hat
                  rw [Nat.zero_add, List.nil_append] at o2
                  rw [Nat.zero_add]
                  have hB := Below.grown J.bl grow J.bl.size (fun q hq => by have := Option.some.inj hq; rw [← this]; exact hge.1)
                  have far : b = true → ∃ g, s3 = .slice (some ⟨g, 0, none⟩) 1 1 ∧ wz.heap[g]? = some (.cells #[.int .i64 (k : Int)] 3) ∧ Wx.heap.size ≤ g ∧ g2 ≠ g := fun hb => by
                    obtain ⟨x_, q1, q2, q3⟩ := J.e3 hb (by decide)
                    have hne : g1 ≠ x_ := fun e => by
                      rw [← e, k1] at q2
                      injection q2 with q2
                      injection q2 with q2
                      exact absurd (congrArg Array.size q2) (by simp)
                    have hlx := (Array.getElem?_eq_some_iff.1 q2).1
                    refine ⟨x_, q1, by rw [grow.block x_ hlx (fun e => hne (Option.some.inj e).symm)]; exact q2, q3, ?_⟩
                    rcases hat with e | e
                    · rw [e]; exact hne
                    · omega
                  (try simp only [Act.put, List.setIfInBounds_toArray, List.set_cons_zero, List.set_cons_succ])
                  exact hK _ _ ⟨unhide HCC _ (below_step bd0 hB), .slice (some ⟨g1, 0, none⟩) 0 0, .slice (some ⟨g2, 0, none⟩) t cap2, s3, s4, s5, s6, rfl, hB, fun h => absurd h (by decide), fun h => absurd h (by decide), fun _ => ⟨g2, cap2, rfl, o2, fun hb g3 e3 => by
                    obtain ⟨x_, q1, q2, q3, q4⟩ := far hb
                    rw [q1] at e3
                    injection e3 with e3
                    injection e3 with e3
                    injection e3 with e3
                    rw [← e3]; exact q4⟩, fun hb _ => by
                    obtain ⟨x_, q1, q2, q3, _⟩ := far hb
                    exact ⟨x_, q1, q2, q3⟩, fun h => absurd h (by decide), fun h => absurd h (by decide), fun h => by
                    obtain ⟨x_, q1, q2, q3⟩ := J.al h
                    exact ⟨x_, q1, q2.intgrow (t := zTri) grow hge.2.2 rfl, q3⟩⟩
              · -- 6
                rintro l na wv ⟨s1, s2, s3, s4, s5, s6, rfl, J⟩
                obtain ⟨g2, cap2, rfl, o2, ne2⟩ := J.e2 rfl
                obtain ⟨g3, rfl, k3, l3⟩ := J.e3 rfl (by decide)
                subst ha0
                refine wpOp_step rfl (fun K hK => ?_)
                (try simp only [Act.put, List.setIfInBounds_toArray, List.set_cons_zero, List.set_cons_succ] at hK ⊢)
                (try simp only [List.getElem_toArray, List.getElem_cons_succ, List.getElem_cons_zero])
                rw [if_pos]
                rotate_left
                · rfl
                obtain ⟨ti, hi, hz0, hz1, hz2⟩ := info_parts Tryz.infoI
                refine wpo_app (by rfl) (.tmp 177) (.tmp 179) (by rfl) ti hi hz0 hz1 hz2 _ (by rfl) Wx.heap.size g2 t cap2 (lrow f t) (by rfl) o2 ⟨g3, 0, none⟩ 1 1 [.int .i64 (k : Int)] rfl rfl ?_ ?_ (by omega) J.bl.size ?_
                · intro j u hu
                  match j, hu with
                  | 0, hu => injection hu with hu; subst hu; simp [World.cell?, Addr.add, k3]
                · intro u hu; rw [List.mem_singleton.1 hu]; rfl
                intro g4 cap4 wz o4 grow hat
                have hge := own_int o2 g2 rfl
                have hB := Below.grown J.bl grow J.bl.size (fun q hq => by have := Option.some.inj hq; rw [← this]; exact hge.1)
                (try simp only [Act.put, List.setIfInBounds_toArray, List.set_cons_zero, List.set_cons_succ])
                exact hK _ _ ⟨unhide HCC _ (below_step bd0 hB), s1, .slice (some ⟨g2, 0, none⟩) t cap2, .slice (some ⟨g3, 0, none⟩) 1 1, .slice (some ⟨g4, 0, none⟩) (t + 1) cap4, s5, s6, rfl, hB, fun _ => rfl, fun h => absurd h (by decide), fun h => absurd h (by decide), fun _ h => absurd h (by decide), fun _ => ⟨g4, cap4, rfl, o4⟩, fun h => absurd h (by decide), fun h => by
                  obtain ⟨x_, q1, q2, q3⟩ := J.al h
                  exact ⟨x_, q1, q2.intgrow (t := zTri) grow hge.2.2 rfl, q3⟩⟩
              · -- 7
                rintro b l na wv ⟨s1, s2, s3, s4, s5, s6, rfl, J⟩
                obtain ⟨g4, cap4, rfl, o4⟩ := J.e4 rfl
                rw [lrow_more] at o4
                have HL7 := hide (likely16_any (.agg #[.slice cf.a nf cf.c, .slice cp.a np cp.c, .slice cg.a ng cg.c]) (some ⟨g4, 0, none⟩, t + 1, cap4) fs P G (t + 1) (fmore f t k) wv (unhide HIS _ (unhide HKG _ (below_step (unhide HBV) (below_step bd0 J.bl)))) (unhide HSM) (nrow_of_own o4) (by omega))
                subst ha0
                refine wpOp_step rfl (fun K hK => ?_)
                (try simp only [Act.put, List.setIfInBounds_toArray, List.set_cons_zero, List.set_cons_succ] at hK ⊢)
                (try simp only [List.getElem_toArray, List.getElem_cons_succ, List.getElem_cons_zero])
                go_simp
                refine (unhide HL7).mono ?_
                rintro e wz (⟨-, t_, rfl, hr, hb⟩ | ⟨hx, -⟩)
                rotate_left
                · exact absurd (scode_more (unhide HSC) (by omega) (by rw [unhide HK]; exact hlt2)) hx
                rw [seen_more] at hr
                exact hK _ _ ⟨unhide HCC _ (below_step bd0 (below_step J.bl hb)), s1, s2, s3, .slice (some ⟨g4, 0, none⟩) (t + 1) cap4, .tuple #[t_.val, .nilIface], s6, rfl, below_step J.bl hb, fun _ => J.bb (by decide), fun h => absurd h (by decide), fun h => absurd h (by decide), fun _ h => absurd h (by decide), fun h => absurd h (by decide), fun _ => ⟨t_, rfl, hr⟩, fun h => by
                  obtain ⟨x_, q1, q2, q3⟩ := J.al h
                  exact ⟨x_, q1, q2.keep hb, q3⟩⟩
              · -- 5
                rintro c l na wv ⟨s1, s2, s3, s4, s5, s6, rfl, J⟩
                subst ha0
                refine wpOp_step rfl (fun K hK => ?_)
                (try simp only [Act.put, List.setIfInBounds_toArray, List.set_cons_zero, List.set_cons_succ] at hK ⊢)
                (try simp only [List.getElem_toArray, List.getElem_cons_succ, List.getElem_cons_zero])
                go_simp
                have hb := alloc_below wv (.cells #[.int .i64 (k : Int)] 3)
                exact hK _ _ ⟨unhide HCC _ (below_step bd0 (below_step J.bl hb)), s1, s2, .slice (some ⟨wv.heap.size, 0, none⟩) 1 1, s4, s5, s6, rfl, below_step J.bl hb, fun _ => rfl, fun h => by
                  obtain ⟨x_, q1, q2, q3⟩ := J.e1 h
                  exact ⟨x_, q1, by rw [hb.block x_ (Array.getElem?_eq_some_iff.1 q2).1]; exact q2, q3⟩, fun h => by
                  obtain ⟨x_, cap_, q1, q2, _⟩ := J.e2 h
                  refine ⟨x_, cap_, q1, own_int_keep q2 hb, fun _ g3 e3_ e => ?_⟩
                  have q4 := (own_int q2 x_ (by rw [q1]; rfl)).2.1
                  injection e3_ with e3_
                  injection e3_ with e3_
                  injection e3_ with e3_
                  omega, fun _ _ => ⟨wv.heap.size, rfl, heap_alloc_new wv _, J.bl.size⟩, fun h => absurd (J.bb (by omega)) (by decide), fun h => absurd (J.bb (by omega)) (by decide), fun h => by
                  obtain ⟨x_, q1, q2, q3⟩ := J.al h
                  exact ⟨x_, q1, q2.keep hb, q3⟩⟩
              · -- 11
                rintro c b na wv ⟨s1, s2, s3, s4, s5, s6, rfl, J⟩
                subst ha0
                refine wpOp_step rfl (fun K hK => ?_)
                (try simp only [Act.put, List.setIfInBounds_toArray, List.set_cons_zero, List.set_cons_succ] at hK ⊢)
                (try simp only [List.getElem_toArray, List.getElem_cons_succ, List.getElem_cons_zero])
                go_simp
                have hb := alloc_below wv (.cells #[.bool false, .slice none 0 0, .slice none 0 0] 26)
                exact hK _ _ ⟨unhide HCC _ (below_step bd0 (below_step J.bl hb)), s1, s2, s3, s4, s5, .pointer (some ⟨wv.heap.size, 0, none⟩), rfl, below_step J.bl hb, J.bb, fun h => by
                  obtain ⟨x_, q1, q2, q3⟩ := J.e1 h
                  exact ⟨x_, q1, by rw [hb.block x_ (Array.getElem?_eq_some_iff.1 q2).1]; exact q2, q3⟩, fun h => by
                  obtain ⟨x_, cap_, q1, q2, q3⟩ := J.e2 h
                  exact ⟨x_, cap_, q1, own_int_keep q2 hb, q3⟩, fun h h2 => by
                  obtain ⟨x_, q1, q2, q3⟩ := J.e3 h h2
                  exact ⟨x_, q1, by rw [hb.block x_ (Array.getElem?_eq_some_iff.1 q2).1]; exact q2, q3⟩, fun h => by
                  obtain ⟨x_, cap_, q1, q2⟩ := J.e4 h
                  exact ⟨x_, cap_, q1, own_int_keep q2 hb⟩, fun h => by
                  obtain ⟨t_, q1, q2⟩ := J.e5 h
                  exact ⟨t_, q1, q2.below hb⟩, fun _ => ⟨wv.heap.size, rfl, BoxIs.new (t := zTri) (rat_zero _), J.bl.size⟩⟩
              · -- end
                rintro c b l na wv hc ⟨s1, s2, s3, s4, s5, s6, rfl, J⟩
                obtain rfl : b = true := J.bb (by omega)
                have em : (#[true, decide (1 ≤ c), true, decide (2 ≤ c), true, true, decide (3 ≤ c), decide (4 ≤ c), false, false, false, l, false, false] : Array Bool) = #[true, true, true, true, true, true, true, true, false, false, false, l, false, false] := by
                  rw [decide_eq_true (show 1 ≤ c by omega), decide_eq_true (show 2 ≤ c by omega), decide_eq_true (show 3 ≤ c by omega), decide_eq_true (show 4 ≤ c by omega)]
                have ef : fu25 (c, true, l) = fu25 (4, true, l) := by
                  unfold fu25
                  simp only
                  omega
                subst ha0
                obtain ⟨tq, rfl, r0⟩ := J.e5 hc
                have Jbl := J.bl
                have Jal := J.al
                clear J
                simp only [Tri.val]
                (try simp only [Act.put, List.setIfInBounds_toArray, List.set_cons_zero, List.set_cons_succ])
                rw [ef]
                change wpHold _ _ _ _ _ _ #[true, decide (1 ≤ c), true, decide (2 ≤ c), true, true, decide (3 ≤ c), decide (4 ≤ c), false, false, false, l, false, false] _ _
                rw [em]
                clear em ef
                have hCv : (fun w' : World => w'.cell? ⟨b7, 0, none⟩ = some (.slice cf.a nf cf.c) ∧ w'.cell? ⟨b7, 1, none⟩ = some (.slice cp.a np cp.c) ∧ w'.cell? ⟨b7, 2, none⟩ = some (.slice cg.a ng cg.c)) wv := unhide HCC _ (below_step bd0 Jbl)
                clear hC0
                cases l with
                | true =>
                  obtain ⟨bQ, rfl, B10, e10⟩ := Jal rfl
                  refine wpHold_take (i := 8) (v := ?_) rfl (by kernel_rfl) (by kernel_rfl) (by kernel_rfl) (fun _ _ _ h => h) (Or.inl ⟨by rfl, ?_⟩) hCv ?_
                  rotate_left
                  · intro w hSw; clear hSw; go_simp; (try with_reducible rfl)
                  (try simp only [List.getElem_toArray, List.getElem_cons_succ, List.getElem_cons_zero])
                  (try simp only [Act.put, List.setIfInBounds_toArray, List.set_cons_zero, List.set_cons_succ])
                  refine wpHold_take (i := 9) (v := ?_) rfl (by kernel_rfl) (by kernel_rfl) (by kernel_rfl) (fun _ _ _ h => h) (Or.inl ⟨by rfl, ?_⟩) hCv ?_
                  rotate_left
                  · intro w hSw; clear hSw; go_simp; (try with_reducible rfl)
                  (try simp only [List.getElem_toArray, List.getElem_cons_succ, List.getElem_cons_zero])
                  (try simp only [Act.put, List.setIfInBounds_toArray, List.set_cons_zero, List.set_cons_succ])
                  refine wpHold_take (i := 10) (v := ?_) rfl (by kernel_rfl) (by kernel_rfl) (by kernel_rfl) (fun _ _ _ h => h) (Or.inl ⟨by rfl, ?_⟩) hCv ?_
                  rotate_left
                  · intro w hSw; clear hSw; go_simp; (try with_reducible rfl)
                  (try simp only [List.getElem_toArray, List.getElem_cons_succ, List.getElem_cons_zero])
                  (try simp only [Act.put, List.setIfInBounds_toArray, List.set_cons_zero, List.set_cons_succ])
                  have ⟨l0, l1, l2⟩ := B10.free
                  have ⟨k0, k1, k2⟩ := B10.cells _ (Below.refl _ _)
                  have NB := B10.set r0
                  have e10' : wr.heap.size ≤ bQ := Nat.le_trans bd0.size e10
                  have YB := (((below_step bd0 Jbl).setCell (p := ⟨bQ, 0, none⟩) e10' (.bool tq.s)).setCell (p := ⟨bQ, 1, none⟩) e10' (.slice tq.a1 tq.n1 tq.c1)).setCell (p := ⟨bQ, 2, none⟩) e10' (.slice tq.a2 tq.n2 tq.c2)
                  have HG_bQ := hide e10'
                  have hCn : (fun w' : World => w'.cell? ⟨b7, 0, none⟩ = some (.slice cf.a nf cf.c) ∧ w'.cell? ⟨b7, 1, none⟩ = some (.slice cp.a np cp.c) ∧ w'.cell? ⟨b7, 2, none⟩ = some (.slice cg.a ng cg.c)) _ := unhide HCC _ YB
                  obtain ⟨WbQ, hWy⟩ : ∃ W, ((wv.setCell ⟨bQ, 0, none⟩ (.bool tq.s)).setCell ⟨bQ, 1, none⟩ (.slice tq.a1 tq.n1 tq.c1)).setCell ⟨bQ, 2, none⟩ (.slice tq.a2 tq.n2 tq.c2) = W := ⟨_, rfl⟩
                  rw [hWy] at NB YB hCn
                  have HX_bQ := hide NB
                  have HY_bQ := hide YB
                  clear B10 YB NB e10' hCv
                  refine wpHold_one (k := 12) (by kernel_rfl) rfl (fun K hK => ?_)
                  (try simp only [List.getElem_toArray, List.getElem_cons_succ, List.getElem_cons_zero])
                  go_simp
                  refine hK.out _ _ hCn ?_
                  clear hK K
                  (try simp only [Act.put, List.setIfInBounds_toArray, List.set_cons_zero, List.set_cons_succ])
                  refine wpHold_one (k := 13) (by kernel_rfl) rfl (fun K hK => ?_)
                  (try simp only [List.getElem_toArray, List.getElem_cons_succ, List.getElem_cons_zero])
                  go_simp
                  refine hK.out _ _ hCn ?_
                  clear hK K
                  (try simp only [Act.put, List.setIfInBounds_toArray, List.set_cons_zero, List.set_cons_succ])
                  refine wpHold_done (by kernel_rfl) ?_ _
                  clear hCn l0 l1 l2 k0 k1 k2 hWy e10 bd0 hWx r0
                  have HXV2 := hide ((unhide HXV).keep (unhide HY_bQ))
                  have HBV2 := hide (below_step (unhide HBV) (unhide HY_bQ))
                  have ⟨x0, x1, x2⟩ := (unhide HXV2).cells _ (Below.refl _ _)
                  have ⟨y0, y1, y2⟩ := (unhide HX_bQ).cells _ (Below.refl _ _)
                  have HADD := hide (addR_any ta.val tq.val _ _ WbQ (unhide HXV2).2 (unhide HX_bQ).2 100000000 (unhide HPSR k hk) (unhide HSNR k hlt2) (by rw [KKe]; omega))
                  clear HXV HBV
                  go_wp2_with fail
                  clear x0 x1 x2 y0 y1 y2
                  refine (unhide HADD).mono ?_
                  rintro e wq ⟨vq, rfl, hvq, hbq⟩
                  obtain ⟨tz, rfl, rz⟩ := tri_of hvq
                  simp only [Tri.val]
                  have XZ := (unhide HXV2).keep hbq
                  have ⟨l0, l1, l2⟩ := XZ.free
                  have ⟨y0, y1, y2⟩ := XZ.cells _ (Below.refl _ _)
                  have FZ := XZ.set rz
                  have FB := (((below_step (unhide HBV2) hbq).setCell (p := ⟨bA, 0, none⟩) (unhide HGA) (.bool tz.s)).setCell (p := ⟨bA, 1, none⟩) (unhide HGA) (.slice tz.a1 tz.n1 tz.c1)).setCell (p := ⟨bA, 2, none⟩) (unhide HGA) (.slice tz.a2 tz.n2 tz.c2)
                  obtain ⟨Wf, hWf⟩ : ∃ W, ((wq.setCell ⟨bA, 0, none⟩ (.bool tz.s)).setCell ⟨bA, 1, none⟩ (.slice tz.a1 tz.n1 tz.c1)).setCell ⟨bA, 2, none⟩ (.slice tz.a2 tz.n2 tz.c2) = W := ⟨_, rfl⟩
                  rw [hWf] at FZ FB
                  have HFZ := hide FZ
                  have HFB := hide FB
                  have hpsk : Bth.ps (fun k => Blf.seen (hm fs P G) (Blf.snoc (sOf f) t k) (t + 1)) k + Blf.seen (hm fs P G) (Blf.snoc (sOf f) t k) (t + 1) = Bth.ps (fun k => Blf.seen (hm fs P G) (Blf.snoc (sOf f) t k) (t + 1)) (k + 1) := rfl
                  rw [hpsk] at HFZ
                  clear XZ FZ FB hvq rz hbq HADD hpsk
                  go_wp2_with fail
                  exact ⟨⟨k + 1, tz, by go_num, hlt2, unhide HFZ, unhide HFB⟩, by simp [intOf]; omega⟩
                | false =>
                  refine wpHold_take (i := 8) (v := ?_) rfl (by kernel_rfl) (by kernel_rfl) (by kernel_rfl) (fun _ _ _ h => h) (Or.inl ⟨by rfl, ?_⟩) hCv ?_
                  rotate_left
                  · intro w hSw; clear hSw; go_simp; (try with_reducible rfl)
                  (try simp only [List.getElem_toArray, List.getElem_cons_succ, List.getElem_cons_zero])
                  (try simp only [Act.put, List.setIfInBounds_toArray, List.set_cons_zero, List.set_cons_succ])
                  refine wpHold_take (i := 9) (v := ?_) rfl (by kernel_rfl) (by kernel_rfl) (by kernel_rfl) (fun _ _ _ h => h) (Or.inl ⟨by rfl, ?_⟩) hCv ?_
                  rotate_left
                  · intro w hSw; clear hSw; go_simp; (try with_reducible rfl)
                  (try simp only [List.getElem_toArray, List.getElem_cons_succ, List.getElem_cons_zero])
                  (try simp only [Act.put, List.setIfInBounds_toArray, List.set_cons_zero, List.set_cons_succ])
                  refine wpHold_take (i := 10) (v := ?_) rfl (by kernel_rfl) (by kernel_rfl) (by kernel_rfl) (fun _ _ _ h => h) (Or.inl ⟨by rfl, ?_⟩) hCv ?_
                  rotate_left
                  · intro w hSw; clear hSw; go_simp; (try with_reducible rfl)
                  (try simp only [List.getElem_toArray, List.getElem_cons_succ, List.getElem_cons_zero])
                  (try simp only [Act.put, List.setIfInBounds_toArray, List.set_cons_zero, List.set_cons_succ])
                  have hbA := alloc_below wv (.cells #[.bool false, .slice none 0 0, .slice none 0 0] 26)
                  have B10 := BoxIs.new (w := wv) (t := zTri) (q := 0) (rat_zero _)
                  have B10' : BoxIs (wv.alloc (.cells #[.bool false, .slice none 0 0, .slice none 0 0] 26)) wv.heap.size zTri 0 := B10
                  have rA := r0.below hbA
                  have blA := below_step Jbl hbA
                  have hCA : (fun w' : World => w'.cell? ⟨b7, 0, none⟩ = some (.slice cf.a nf cf.c) ∧ w'.cell? ⟨b7, 1, none⟩ = some (.slice cp.a np cp.c) ∧ w'.cell? ⟨b7, 2, none⟩ = some (.slice cg.a ng cg.c)) _ := unhide HCC _ (below_step bd0 blA)
                  have e10 : Wx.heap.size ≤ wv.heap.size := Jbl.size
                  refine wpHold_one (k := 11) (by kernel_rfl) rfl (fun K hK => ?_)
                  (try simp only [List.getElem_toArray, List.getElem_cons_succ, List.getElem_cons_zero])
                  go_simp
                  refine hK.out _ _ hCA ?_
                  clear hK K
                  (try simp only [Act.put, List.setIfInBounds_toArray, List.set_cons_zero, List.set_cons_succ])
                  obtain ⟨wA, hwA⟩ : ∃ W, wv.alloc (.cells #[.bool false, .slice none 0 0, .slice none 0 0] 26) = W := ⟨_, rfl⟩
                  obtain ⟨bQ, hbn⟩ : ∃ b, wv.heap.size = b := ⟨_, rfl⟩
                  rw [hwA] at B10' rA blA hCA
                  rw [hbn] at B10' e10
                  simp only [hwA, hbn]
                  clear B10 hbA hwA hbn
                  replace B10 := B10'
                  clear B10'
                  have ⟨l0, l1, l2⟩ := B10.free
                  have ⟨k0, k1, k2⟩ := B10.cells _ (Below.refl _ _)
                  have NB := B10.set rA
                  have e10' : wr.heap.size ≤ bQ := Nat.le_trans bd0.size e10
                  have YB := (((below_step bd0 blA).setCell (p := ⟨bQ, 0, none⟩) e10' (.bool tq.s)).setCell (p := ⟨bQ, 1, none⟩) e10' (.slice tq.a1 tq.n1 tq.c1)).setCell (p := ⟨bQ, 2, none⟩) e10' (.slice tq.a2 tq.n2 tq.c2)
                  have HG_bQ := hide e10'
                  have hCn : (fun w' : World => w'.cell? ⟨b7, 0, none⟩ = some (.slice cf.a nf cf.c) ∧ w'.cell? ⟨b7, 1, none⟩ = some (.slice cp.a np cp.c) ∧ w'.cell? ⟨b7, 2, none⟩ = some (.slice cg.a ng cg.c)) _ := unhide HCC _ YB
                  obtain ⟨WbQ, hWy⟩ : ∃ W, ((wA.setCell ⟨bQ, 0, none⟩ (.bool tq.s)).setCell ⟨bQ, 1, none⟩ (.slice tq.a1 tq.n1 tq.c1)).setCell ⟨bQ, 2, none⟩ (.slice tq.a2 tq.n2 tq.c2) = W := ⟨_, rfl⟩
                  rw [hWy] at NB YB hCn
                  have HX_bQ := hide NB
                  have HY_bQ := hide YB
                  clear B10 YB NB e10' hCv
                  refine wpHold_one (k := 12) (by kernel_rfl) rfl (fun K hK => ?_)
                  (try simp only [List.getElem_toArray, List.getElem_cons_succ, List.getElem_cons_zero])
                  go_simp
                  refine hK.out _ _ hCn ?_
                  clear hK K
                  (try simp only [Act.put, List.setIfInBounds_toArray, List.set_cons_zero, List.set_cons_succ])
                  refine wpHold_one (k := 13) (by kernel_rfl) rfl (fun K hK => ?_)
                  (try simp only [List.getElem_toArray, List.getElem_cons_succ, List.getElem_cons_zero])
                  go_simp
                  refine hK.out _ _ hCn ?_
                  clear hK K
                  (try simp only [Act.put, List.setIfInBounds_toArray, List.set_cons_zero, List.set_cons_succ])
                  refine wpHold_done (by kernel_rfl) ?_ _
                  clear hCn l0 l1 l2 k0 k1 k2 hWy e10 bd0 hWx r0 hCA rA blA
                  have HXV2 := hide ((unhide HXV).keep (unhide HY_bQ))
                  have HBV2 := hide (below_step (unhide HBV) (unhide HY_bQ))
                  have ⟨x0, x1, x2⟩ := (unhide HXV2).cells _ (Below.refl _ _)
                  have ⟨y0, y1, y2⟩ := (unhide HX_bQ).cells _ (Below.refl _ _)
                  have HADD := hide (addR_any ta.val tq.val _ _ WbQ (unhide HXV2).2 (unhide HX_bQ).2 100000000 (unhide HPSR k hk) (unhide HSNR k hlt2) (by rw [KKe]; omega))
                  clear HXV HBV
                  go_wp2_with fail
                  clear x0 x1 x2 y0 y1 y2
                  refine (unhide HADD).mono ?_
                  rintro e wq ⟨vq, rfl, hvq, hbq⟩
                  obtain ⟨tz, rfl, rz⟩ := tri_of hvq
                  simp only [Tri.val]
                  have XZ := (unhide HXV2).keep hbq
                  have ⟨l0, l1, l2⟩ := XZ.free
                  have ⟨y0, y1, y2⟩ := XZ.cells _ (Below.refl _ _)
                  have FZ := XZ.set rz
                  have FB := (((below_step (unhide HBV2) hbq).setCell (p := ⟨bA, 0, none⟩) (unhide HGA) (.bool tz.s)).setCell (p := ⟨bA, 1, none⟩) (unhide HGA) (.slice tz.a1 tz.n1 tz.c1)).setCell (p := ⟨bA, 2, none⟩) (unhide HGA) (.slice tz.a2 tz.n2 tz.c2)
                  obtain ⟨Wf, hWf⟩ : ∃ W, ((wq.setCell ⟨bA, 0, none⟩ (.bool tz.s)).setCell ⟨bA, 1, none⟩ (.slice tz.a1 tz.n1 tz.c1)).setCell ⟨bA, 2, none⟩ (.slice tz.a2 tz.n2 tz.c2) = W := ⟨_, rfl⟩
                  rw [hWf] at FZ FB
                  have HFZ := hide FZ
                  have HFB := hide FB
                  have hpsk : Bth.ps (fun k => Blf.seen (hm fs P G) (Blf.snoc (sOf f) t k) (t + 1)) k + Blf.seen (hm fs P G) (Blf.snoc (sOf f) t k) (t + 1) = Bth.ps (fun k => Blf.seen (hm fs P G) (Blf.snoc (sOf f) t k) (t + 1)) (k + 1) := rfl
                  rw [hpsk] at HFZ
                  clear XZ FZ FB hvq rz hbq HADD hpsk
                  go_wp2_with fail
                  exact ⟨⟨k + 1, tz, by go_num, hlt2, unhide HFZ, unhide HFB⟩, by simp [intOf]; omega⟩
            · have f2 : ¬ (k : Int) < (K : Int) := by omega
              have hkK : k = K := by omega
              have ⟨x0, x1, x2⟩ := (unhide HXV).cells _ (Below.refl _ _)
              have XQ := (unhide HXA).keep (unhide HBV)
              have ⟨y0, y1, y2⟩ := XQ.cells _ (Below.refl _ _)
              have hq : Bth.ps (fun k => Blf.seen (hm fs P G) (Blf.snoc (sOf f) t k) (t + 1)) k = q := by rw [hkK, ← unhide HK, more_signs (unhide HGM).ok]; exact unhide HQ
              have hRQ : RS q 11000000 := by rw [← unhide HQ]; exact seen_RS (unhide HGM) (unhide HSM) (unhide HSL) (by omega)
              have XV := (unhide HXV).2
              rw [hq] at XV
              have HLK := hide (like_any ta.val tp.val q wr XV XQ.2 11000000 hRQ (by rw [KKe]; omega) (tab_below (unhide HTB) (below_step (unhide HBB0) (unhide HBV))))
              simp only [Tri.val] at HLK
              clear XQ hq hRQ XV HXV hkK
              go_wp2_with fail
              clear x0 x1 x2 y0 y1 y2
              refine (unhide HLK).mono ?_
              rintro e wz ⟨rfl, hbz⟩
              have HBZ := hide (below_step (unhide HBB0) (below_step (unhide HBV) hbz))
              clear hbz HLK
              go_wp2
              go_ret
              exact ⟨rfl, unhide HBZ⟩)
  · -- these signs can't come
    have hT0 : 0 < T := Nat.pos_of_ne_zero (fun e => by
      rw [e] at hpr
      have : (1 : Rat) = 0 := hpr
      exact absurd this (by decide))
    have HSC := hide hsc
    have HPR := hide hpr
    have H4 := hide hb4
    have ⟨j0, j1, j2⟩ := unhide HC7 _ hb4
    have HSM4 := hide (unhide HSMO _ hb4)
    clear hsc hpr hb4 HFI
    go_wp2_with fail
    clear j0 j1 j2
    refine (unhide HSM4).mono ?_
    rintro e w5 (⟨-, hx, -⟩ | ⟨-, -, rfl, hb5⟩ | ⟨hx, -⟩)
    · exact absurd (unhide HPR) hx
    rotate_left
    · exact absurd (unhide HSC) hx
    have H5 := hide (below_step (unhide H4) hb5)
    have ⟨j0, j1, j2⟩ := unhide HC7 _ (unhide H5)
    have HLI5 := hide (unhide HLIK _ (unhide H5))
    clear hb5 HSM4 H4
    go_wp2_with fail
    clear j0 j1 j2
    refine (unhide HLI5).mono ?_
    rintro e w6 (⟨-, tp, rfl, hrp, hb6⟩ | ⟨hx, -⟩)
    rotate_left
    · exact absurd (unhide HSC) hx
    simp only [Tri.val]
    have b9_ := alloc_below w6 (.cells #[.bool tp.s, .slice tp.a1 tp.n1 tp.c1, .slice tp.a2 tp.n2 tp.c2] 26)
    have X9 := BoxIs.new hrp
    obtain ⟨W9, hW9⟩ : ∃ W, w6.alloc (.cells #[.bool tp.s, .slice tp.a1 tp.n1 tp.c1, .slice tp.a2 tp.n2 tp.c2] 26) = W := ⟨_, rfl⟩
    obtain ⟨b9, hb9⟩ : ∃ b, w6.heap.size = b := ⟨_, rfl⟩
    rw [hW9] at b9_ X9
    rw [hb9] at X9
    have HB9 := hide (below_step (unhide HB3) (below_step (unhide H5) (below_step hb6 b9_)))
    have HX9 := hide X9
    have HSU := hide (sure_any W9 (tab_below (unhide HTB) (unhide HB9)))
    clear hrp hb6 b9_ X9 HLI5
    go_wp2_with fail
    clear hW9 hb9
    refine (unhide HSU).mono ?_
    rintro e wa ⟨rfl, hba⟩
    have HBA := hide (below_step (unhide HB9) hba)
    have XA := (unhide HX9).keep hba
    have ⟨x0, x1, x2⟩ := XA.cells _ (Below.refl _ _)
    have HSI := hide (sign_any tp.val _ wa XA.2)
    rw [unhide HPR] at HSI
    have hz0 : (0 : Rat).num.sign = 0 := rfl
    rw [hz0] at HSI
    simp only [Tri.val] at HSI
    have f0 : (0 : Int) < (T : Int) := by omega
    clear hba XA HSU hz0 HX9
    go_wp2_with fail
    clear x0 x1 x2
    refine (unhide HSI).mono ?_
    rintro e wb ⟨rfl, hbb⟩
    have HBBb := hide (below_step (unhide HBA) hbb)
    have HTE := hide (tell_errno 8 wb ((unhide HET).below (unhide HBBb)))
    have f1 : 0 < T := hT0
    have f2 : decide (0 < T) = true := decide_eq_true hT0
    clear hbb HSI f0
    go_wp2_with fail
    refine (unhide HTE).mono ?_
    rintro e wc ⟨rfl, hbc⟩
    have HBC := hide (below_step (unhide HBBb) hbc)
    have HTE2 := hide (tell_errno 8 wc ((unhide HET).below (unhide HBC)))
    clear hbc HTE
    go_wp2_with fail
    refine (unhide HTE2).mono ?_
    rintro e wd ⟨rfl, hbd⟩
    have HBD := hide (below_step (unhide HBC) hbd)
    clear hbd HTE2
    go_wp2
    go_ret
    exact ⟨rfl, unhide HBD⟩
  · -- an error
    have HSC := hide hsc
    have H4 := hide hb4
    have ⟨j0, j1, j2⟩ := unhide HC7 _ hb4
    have HSM4 := hide (unhide HSMO _ hb4)
    clear hsc hb4 HFI
    go_wp2_with fail
    clear j0 j1 j2
    refine (unhide HSM4).mono ?_
    rintro e w5 (⟨hx, -⟩ | ⟨hx, -⟩ | ⟨-, k2, rfl, hb5⟩)
    · exact absurd hx (unhide HSC)
    · exact absurd hx (unhide HSC)
    have H5 := hide (below_step (unhide H4) hb5)
    have ⟨j0, j1, j2⟩ := unhide HC7 _ (unhide H5)
    have HLI5 := hide (unhide HLIK _ (unhide H5))
    clear hb5 HSM4 H4
    go_wp2_with fail
    clear j0 j1 j2
    refine (unhide HLI5).mono ?_
    rintro e w6 (⟨hx, -⟩ | ⟨-, k3, rfl, hb6⟩)
    · exact absurd hx (unhide HSC)
    have b9_ := alloc_below w6 (.cells #[.bool false, .slice none 0 0, .slice none 0 0] 26)
    have X9 := BoxIs.new (w := w6) (t := zTri) (q := 0) (rat_zero _)
    obtain ⟨W8, hW8⟩ : ∃ W, w6.alloc (.cells #[.bool false, .slice none 0 0, .slice none 0 0] 26) = W := ⟨_, rfl⟩
    obtain ⟨b9, hb9⟩ : ∃ b, w6.heap.size = b := ⟨_, rfl⟩
    have X9' : BoxIs W8 b9 zTri 0 := by rw [← hW8, ← hb9]; exact X9
    rw [hW8] at b9_
    have H8 := below_step (unhide H5) (below_step hb6 b9_)
    have hg9 : W3.heap.size ≤ b9 := by rw [← hb9]; exact (below_step (unhide H5) hb6).size
    have ⟨l0, l1, l2⟩ := X9'.free
    have ⟨y0, y1, y2⟩ := X9'.cells _ (Below.refl _ _)
    have FIN := X9'.set (t' := zTri) (q' := 0) (rat_zero _)
    have FB := ((H8.setCell (p := ⟨b9, 0, none⟩) hg9 (.bool false)).setCell (p := ⟨b9, 1, none⟩) hg9 (.slice none 0 0)).setCell (p := ⟨b9, 2, none⟩) hg9 (.slice none 0 0)
    obtain ⟨W9, hW9⟩ : ∃ W, ((W8.setCell ⟨b9, 0, none⟩ (.bool false)).setCell ⟨b9, 1, none⟩ (.slice none 0 0)).setCell ⟨b9, 2, none⟩ (.slice none 0 0) = W := ⟨_, rfl⟩
    have FIN' : BoxIs W9 b9 zTri 0 := by rw [← hW9]; exact FIN
    rw [hW9] at FB
    have HB9 := hide (below_step (unhide HB3) FB)
    have HX9 := hide FIN'
    have HSU := hide (sure_any W9 (tab_below (unhide HTB) (unhide HB9)))
    clear X9 X9' b9_ hb6 hg9 H8 FIN FIN' FB HLI5
    go_wp2_with fail
    clear hW8 hb9 hW9 l0 l1 l2 y0 y1 y2
    refine (unhide HSU).mono ?_
    rintro e wa ⟨rfl, hba⟩
    have HBA := hide (below_step (unhide HB9) hba)
    have HXA := hide ((unhide HX9).keep hba)
    have HSU2 := hide (sure_any wa (tab_below (unhide HTB) (unhide HBA)))
    clear hba HSU HX9
    go_wp2_with fail
    refine (unhide HSU2).mono ?_
    rintro e wb ⟨rfl, hbb⟩
    have HBBb := hide (below_step (unhide HBA) hbb)
    have X8 := (unhide HXA).keep hbb
    have HSI := hide (sign_any zTri.val 0 wb X8.2)
    have ⟨z0, z1, z2⟩ := X8.cells _ (Below.refl _ _)
    have z0 : wb.cell? ⟨b9, 0, none⟩ = some (.bool false) := z0
    have z1 : wb.cell? ⟨b9, 1, none⟩ = some (.slice none 0 0) := z1
    have z2 : wb.cell? ⟨b9, 2, none⟩ = some (.slice none 0 0) := z2
    have hz0 : (0 : Rat).num.sign = 0 := rfl
    rw [hz0] at HSI
    clear hbb X8 HSU2 HXA hz0
    go_wp2_with fail
    clear z0 z1 z2
    refine (unhide HSI).mono ?_
    rintro e wc ⟨rfl, hbc⟩
    have HBC := hide (below_step (unhide HBBb) hbc)
    clear hbc HSI
    go_wp2
    go_ret
    exact ⟨rfl, unhide HBC⟩

end Go.Proofs.YtfnbjenneodcdaaGreatDoor
