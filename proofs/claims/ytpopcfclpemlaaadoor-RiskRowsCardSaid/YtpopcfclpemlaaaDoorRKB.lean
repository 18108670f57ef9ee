/- Things of gates: likely. -/
import Derived.Test.YtpopcfclpemlaaaDoorRKA
import Derived.Test.YtpopcfclpemlaaaDoorRNB
namespace Go.Proofs.YtpopcfclpemlaaaDoor
open Go.RowKit Go.Sort Go.Shelf

theorem fill_next (f : Nat → Rat) (N k : Nat) (h : f k = 0) : fill f N k = fill f N (k + 1) := by
  apply List.ext_getElem?
  intro i
  unfold fill
  by_cases hi : i < N
  · by_cases e : i = k
    · subst e; simp [hi, h]
    · have e2 : (i < k + 1) = (i < k) := by apply propext; omega
      simp [hi, e2]
  · simp [hi]
/-- How great the numbers get, part by part. -/
def szj (J0 : Nat) : Nat → Nat
  | 0 => 1
  | d + 1 => 2 * szj J0 d + 2 * J0 + 6
theorem szj_mono (J0 : Nat) : ∀ {m n : Nat}, m ≤ n → szj J0 m ≤ szj J0 n
  | m, 0, h => by obtain rfl : m = 0 := by omega
                  exact Nat.le_refl _
  | m, n + 1, h => by
    rcases Nat.lt_or_ge n m with a | a
    · obtain rfl : m = n + 1 := by omega
      exact Nat.le_refl _
    · have := szj_mono J0 a
      show _ ≤ 2 * szj J0 n + 2 * J0 + 6
      omega
/-- A row while one part is mixed in: the first i are done. -/
def mxv (v : Rat) (Q : Nat) (F : Nat → Rat) (j : Nat) : Rat := v * F (j + Q) + (((1 : Int) : Rat) - v) * F j
def mxr (v : Rat) (Q : Nat) (F : Nat → Rat) (i j : Nat) : Rat := if j < i then mxv v Q F j else F j
theorem mxr_zero (v : Rat) (Q : Nat) (F : Nat → Rat) (M : Nat) : row F M = row (mxr v Q F 0) M := row_congr (fun j _ => by unfold mxr; rw [if_neg (by omega)])
theorem mxr_set (v : Rat) {Q M i : Nat} (F : Nat → Rat) (hi : i < M) : (row (mxr v Q F i) M).set i (mxv v Q F i) = row (mxr v Q F (i + 1)) M := row_setq hi (by
  unfold mxr; rw [if_pos (Nat.lt_succ_self i)]) (fun j _ hne => by
  unfold mxr
  by_cases h : j < i
  · rw [if_pos h, if_pos (by omega)]
  · rw [if_neg h, if_neg (by omega)])
theorem mxr_lk (p : Nat → Rat) (k : Nat) (F : Nat → Rat) : Rsk.lk p k (mxr (p k) (2 ^ k) F (2 ^ k)) = Rsk.lk p (k + 1) F := Rsk.lk_congr k (fun _ _ => rfl) (fun i hi => by
  unfold mxr mxv
  rw [if_pos hi, show ((1 : Int) : Rat) = 1 by simp])
theorem mxr_RS {v : Rat} {Q J0 S : Nat} {F : Nat → Rat} (hv : RS v J0) (hF : ∀ j, RS (F j) S) (i j : Nat) : RS (mxr v Q F i j) (2 * S + 2 * J0 + 6) := by
  unfold mxr
  split
  · unfold mxv
    exact ((hv.mul (hF (j + Q))).add ((one_RSi.sub' hv).mul (hF j))).mono (by omega)
  · exact (hF j).mono (by omega)
theorem wf_RS (g : Rsk.Gs) (N i : Nat) : RS (Rsk.wf g N i) 1 := by
  unfold Rsk.wf
  split
  · exact one_RS'
  · exact RS.zero
set_option maxHeartbeats 16000000 in
set_option maxRecDepth 100000 in
set_option linter.unusedSimpArgs false in
theorem likely_any (a : Option Addr) (N c P : Nat) (g : Rsk.Gs) (H : Nat → Option Addr × Nat) (v : Value) (qs : List Rat) (n J0 JB : Nat) (w : World) (h : GRow w a N c g H) (G : GoodG P g N) (hl : LawIs w v qs) (hn : qs.length = n) (hn1 : 1 ≤ n) (hn2 : n ≤ 10) (hq : ∀ j, j < qs.length → RS qs[j]! J0) (hJB : szj J0 n + J0 + 8 ≤ JB) (hJ : JB + JB + 1 ≤ KK) :
    Calls Tryd.prog 37 #[.slice a N c, v] w fun e w' => ∃ u, e = .returned u ∧ RatIs w' u (Rsk.lk (xq qs) n (Rsk.wf g N)) ∧ Below w.heap.size w w' := by
  have HJ := hide hJ
  have HJB := hide hJB
  have HG := hide h
  have HGD := hide G
  have hcap : N ≤ c ∧ c ≤ 9223372036854775807 := ⟨h.1, h.2.1⟩
  obtain ⟨hc1, hc2⟩ := hcap
  have HRX : Hid (∀ j, j < n → RS (xq qs j) J0) := fun j hj => hq j (by omega)
  obtain ⟨ap, cp, rfl, -⟩ := id hl
  obtain ⟨-, p2, p3, p4⟩ := hl.parts
  obtain ⟨bx, ox, rfl, hblt, hcx⟩ := p4 (by omega)
  rw [hn] at p2 hcx ⊢
  have HXC0 : Hid (∀ j, j < n → ∃ t : Tri, ∀ W', Below w.heap.size w W' → (W'.cell? ⟨bx, ox + j * 3, none⟩ = some (.bool t.s) ∧ W'.cell? ⟨bx, ox + j * 3 + 1, none⟩ = some (.slice t.a1 t.n1 t.c1) ∧ W'.cell? ⟨bx, ox + j * 3 + 2, none⟩ = some (.slice t.a2 t.n2 t.c2)) ∧ RatIs W' t.val (xq qs j)) := fun j hj => by
    obtain ⟨t, k0, k1, k2, r⟩ := hcx j hj
    refine ⟨t, fun W' hW => ⟨⟨?_, ?_, ?_⟩, r.below hW⟩⟩
    · rw [hW.cell (p := ⟨bx, ox + j * 3, none⟩) hblt]; exact k0
    · rw [hW.cell (p := ⟨bx, ox + j * 3 + 1, none⟩) hblt]; exact k1
    · rw [hW.cell (p := ⟨bx, ox + j * 3 + 2, none⟩) hblt]; exact k2
  obtain ⟨x, hx⟩ : ∃ x, xq qs = x := ⟨_, rfl⟩
  rw [hx] at HRX HXC0 ⊢
  obtain ⟨T, hT⟩ : ∃ T, Rsk.lk x n (Rsk.wf g N) = T := ⟨_, rfl⟩
  have HT := hide hT
  rw [hT]
  obtain ⟨M, hM⟩ : ∃ M, 2 ^ n = M := ⟨_, rfl⟩
  have hM1 : M ≤ 1024 := by rw [← hM]; exact Nat.pow_le_pow_right (by decide) hn2
  have hM0 : 1 ≤ M := by rw [← hM]; exact Nat.pow_pos (by decide)
  have mk2 : (M : Int) ≤ 1024 := by exact_mod_cast hM1
  have HM := hide hM
  have HWN : Hid (wrap64 ((2 : Int) ^ n) = (M : Int)) := show _ = _ by rw [wrap64_pow (Nat.le_trans hn2 (by decide)), hM]
  have n0 : (0 : Int) ≤ (n : Int) := by omega
  have b0 := alloc_below w (.cells #[.bool false, .slice none 0 0, .slice none 0 0] 31)
  have X0 := BoxIs.new (w := w) (t := zTri) (q := 0) (rat_zero _)
  obtain ⟨W0, hW0⟩ : ∃ W, w.alloc (.cells #[.bool false, .slice none 0 0, .slice none 0 0] 31) = W := ⟨_, rfl⟩
  obtain ⟨R, hR⟩ : ∃ R, w.heap.size = R := ⟨_, rfl⟩
  have X0' : BoxIs W0 R zTri 0 := by rw [← hW0, ← hR]; exact X0
  rw [hW0] at b0
  have HX : Hid (∀ W, Below W0.heap.size W0 W → BoxIs W R zTri 0) := fun W hW => X0'.keep hW
  have HBW : Hid (∀ W, Below W0.heap.size W0 W → Below w.heap.size w W) := fun W hW => below_step b0 hW
  have HGR : Hid (w.heap.size ≤ R) := by show _ ≤ R; rw [hR]; exact Nat.le_refl _
  have HXC : Hid (∀ j, j < n → ∃ t : Tri, ∀ W', Below W0.heap.size W0 W' → (W'.cell? ⟨bx, ox + j * 3, none⟩ = some (.bool t.s) ∧ W'.cell? ⟨bx, ox + j * 3 + 1, none⟩ = some (.slice t.a1 t.n1 t.c1) ∧ W'.cell? ⟨bx, ox + j * 3 + 2, none⟩ = some (.slice t.a2 t.n2 t.c2)) ∧ RatIs W' t.val (x j)) := fun j hj => by
    obtain ⟨t, ht⟩ := unhide HXC0 j hj
    exact ⟨t, fun W' hW => ht W' (below_step b0 hW)⟩
  have qm := make_ratios (M : Int) (Int.natCast_nonneg M) (Int.le_trans mk2 (by decide)) W0
  rw [Int.toNat_natCast] at qm
  have S1 := SumsAt.start W0 W0 M (Below.refl _ _)
  rw [fill_zero (Rsk.wf g N)] at S1
  obtain ⟨W1, hW1⟩ : ∃ W, W0.alloc (.cells (tcells (List.replicate M zTri)).toArray 31) = W := ⟨_, rfl⟩
  obtain ⟨GO, hGO⟩ : ∃ G, W0.heap.size = G := ⟨_, rfl⟩
  rw [hW1] at qm S1
  rw [hGO] at qm S1
  have S1' : SumsAt W0 W1 GO (List.replicate M zTri) (fill (Rsk.wf g N) M 0) := S1
  have HS1 := hide S1'
  clear h G hl hq hJB hJ hx hT hcx p4 HXC0 b0 X0 X0' S1 S1' hM hblt
  have hwn := unhide HWN
  go_enter Tryd.func37, Tryd.ntmps37
  go_wp2_with fail
  clear hW0 hR qm hW1 hGO hwn
  go_loopw [17] (fun vi wr => ∃ (i : Nat) (us : List Tri), vi = .int .i64 (i : Int) ∧ i ≤ M ∧ us.length = M ∧ SumsAt W0 wr GO us (fill (Rsk.wf g N) M i)) (fun vi _ => M - (intOf vi).toNat)
  case atStart => exact ⟨0, _, rfl, Nat.zero_le _, List.length_replicate, unhide HS1⟩
  case round =>
    obtain ⟨i, us, rfl, hi, hul, S⟩ := hrel
    clear HS1
    by_cases hlt : i < M
    · have j1 : (i : Int) < (M : Int) := by omega
      have j0 : (0 : Int) ≤ (i : Int) := by omega
      have HWO := hide (works_any a N c P i g H wr ((unhide HG).below (unhide HBW _ S.bl)) (unhide HGD) (by omega))
      have HS := hide S
      have HUL := hide hul
      have HLT := hide hlt
      have HWF : Hid (Rsk.wf g N i = if Rsk.wk g N i = true then 1 else 0) := rfl
      clear S hul
      obtain ⟨B, hB⟩ : ∃ B, Rsk.wk g N i = B := ⟨_, rfl⟩
      rw [hB] at HWO HWF
      clear hB
      cases B with
      | true =>
        have hwf : Rsk.wf g N i = ((1 : Int) : Rat) := by rw [unhide HWF, if_pos rfl, show ((1 : Int) : Rat) = 1 by simp]
        have HW1 := hide hwf
        clear HWF hwf
        go_wp2_with fail
        refine (unhide HWO).mono ?_
        rintro e w2 ⟨rfl, hb2⟩
        have HS2 := hide ((unhide HS).keep hb2)
        clear HWO HS hb2
        go_wp2_with fail
        refine (whole_any 1 (by decide) (by decide) w2).mono ?_
        rintro e w3 ⟨v3, rfl, hv3, hb3⟩
        obtain ⟨t3, rfl, r3⟩ := tri_of hv3
        simp only [Tri.val]
        rw [← unhide HW1] at r3
        have S3 := (unhide HS2).keep hb3
        have ⟨⟨y0, y1, y2⟩, g0, g1, g2⟩ := S3.cells i (by rw [unhide HUL]; exact hlt)
        have FZ := S3.set i (by rw [unhide HUL]; exact hlt) t3 _ r3
        obtain ⟨WA, hWA⟩ : ∃ W, ((w3.setCell ⟨GO, i * 3, none⟩ (.bool t3.s)).setCell ⟨GO, i * 3 + 1, none⟩ (.slice t3.a1 t3.n1 t3.c1)).setCell ⟨GO, i * 3 + 2, none⟩ (.slice t3.a2 t3.n2 t3.c2) = W := ⟨_, rfl⟩
        rw [hWA, fill_set] at FZ
        have HFZ := hide FZ
        clear S3 FZ hv3 r3 hb3 HS2 HW1
        go_wp2_with fail
        exact ⟨⟨i + 1, _, by go_num, unhide HLT, by rw [List.length_set]; exact unhide HUL, unhide HFZ⟩, by have := unhide HLT; simp [intOf]; omega⟩
      | false =>
        have hwf : Rsk.wf g N i = 0 := by rw [unhide HWF, if_neg (by decide)]
        have HE : Hid (fill (Rsk.wf g N) M i = fill (Rsk.wf g N) M (i + 1)) := fill_next _ _ _ hwf
        clear HWF hwf
        go_wp2_with fail
        refine (unhide HWO).mono ?_
        rintro e w2 ⟨rfl, hb2⟩
        have HS2 : Hid (SumsAt W0 w2 GO us (fill (Rsk.wf g N) M (i + 1))) := by
          have := (unhide HS).keep hb2
          rw [unhide HE] at this
          exact this
        clear HWO HS hb2 HE
        go_wp2_with fail
        exact ⟨⟨i + 1, us, by go_num, unhide HLT, unhide HUL, unhide HS2⟩, by have := unhide HLT; simp [intOf]; omega⟩
    · obtain rfl : i = M := by omega
      have j1 : ¬ (i : Int) < (i : Int) := by omega
      have e1 : fill (Rsk.wf g N) i i = row (Rsk.wf g N) i := rfl
      rw [e1] at S
      have HS := hide S
      have HUL := hide hul
      clear S hul e1
      go_wp2_with fail
      go_loopw [7] (fun vz wr => ∃ (k : Nat) (z : Int) (us : List Tri) (F : Nat → Rat), vz = .int .i64 z ∧ z = (k : Int) - 1 ∧ k ≤ n ∧ us.length = i ∧ SumsAt W0 wr GO us (row F i) ∧ Rsk.lk x k F = T ∧ ∀ j, RS (F j) (szj J0 (n - k))) (fun vz _ => (intOf vz + 1).toNat)
      case atStart => exact ⟨n, _, us, Rsk.wf g N, rfl, rfl, Nat.le_refl _, unhide HUL, unhide HS, unhide HT, fun j => by rw [Nat.sub_self]; exact wf_RS g N j⟩
      case round =>
        obtain ⟨k, z, us, F, rfl, hz, hk, hul, S, hlk, hRF⟩ := hrel
        clear HS HUL
        rcases Nat.eq_zero_or_pos k with k0 | k0
        · subst k0
          have hz1 : z = -1 := by omega
          have j2 : ¬ (0 : Int) ≤ z := by omega
          have hlk' : F 0 = T := hlk
          have ⟨⟨p0, p1, p2⟩, _⟩ := S.cells 0 (by omega)
          have r0 := S.rat 0 (by omega)
          rw [row_get (by omega), hlk'] at r0
          obtain ⟨t0, ht0⟩ : ∃ t, us[0]! = t := ⟨_, rfl⟩
          rw [ht0] at p0 p1 p2 r0
          have p0' : wr.cell? ⟨GO, 0, none⟩ = some (.bool t0.s) := by rw [Nat.zero_mul] at p0; exact p0
          have p1' : wr.cell? ⟨GO, 1, none⟩ = some (.slice t0.a1 t0.n1 t0.c1) := by rw [Nat.zero_mul, Nat.zero_add] at p1; exact p1
          have p2' : wr.cell? ⟨GO, 2, none⟩ = some (.slice t0.a2 t0.n2 t0.c2) := by rw [Nat.zero_mul, Nat.zero_add] at p2; exact p2
          have i0 : (0 : Int) < (i : Int) := by omega
          have hbl := S.bl
          have Y := unhide HX _ hbl
          have ⟨l0, l1, l2⟩ := Y.free
          have ⟨y0, y1, y2⟩ := Y.cells _ (Below.refl _ _)
          have FIN := Y.set r0
          have FB := (((unhide HBW _ hbl).setCell (p := ⟨R, 0, none⟩) (unhide HGR) (.bool t0.s)).setCell (p := ⟨R, 1, none⟩) (unhide HGR) (.slice t0.a1 t0.n1 t0.c1)).setCell (p := ⟨R, 2, none⟩) (unhide HGR) (.slice t0.a2 t0.n2 t0.c2)
          obtain ⟨Wf, hWf⟩ : ∃ W, ((wr.setCell ⟨R, 0, none⟩ (.bool t0.s)).setCell ⟨R, 1, none⟩ (.slice t0.a1 t0.n1 t0.c1)).setCell ⟨R, 2, none⟩ (.slice t0.a2 t0.n2 t0.c2) = W := ⟨_, rfl⟩
          rw [hWf] at FIN FB
          have HFIN := hide FIN
          have HFB := hide FB
          clear Y FIN FB
          have ⟨x0, x1, x2⟩ := (unhide HFIN).cells _ (Below.refl _ _)
          clear S hlk hlk' hRF r0 ht0 p0 p1 p2 hbl hz
          go_wp2
          (try simp only [Exit.inBlock, Exit.then])
          exact bodyPost_ret (v := .agg #[.bool t0.s, .slice t0.a1 t0.n1 t0.c1, .slice t0.a2 t0.n2 t0.c2]) (by simp [results, Tryd.results37, go_sem, x0, x1, x2]) rfl ⟨_, rfl, (unhide HFIN).2, unhide HFB⟩
        · obtain ⟨q, rfl⟩ : ∃ q, k = q + 1 := ⟨k - 1, by omega⟩
          obtain rfl : z = (q : Int) := by omega
          have j2 : (0 : Int) ≤ (q : Int) := by omega
          have j3 : (q : Int) < (n : Int) := by omega
          have hq10 : q ≤ 10 := by omega
          obtain ⟨tp, htp⟩ := unhide HXC q (by omega)
          have HTP := hide (htp wr S.bl).2
          have HTPC := hide htp
          have HC11 : Hid (∀ W, Below wr.heap.size wr W → (fun w' : World => w'.cell? ⟨bx, ox + q * 3, none⟩ = some (.bool tp.s) ∧ w'.cell? ⟨bx, ox + q * 3 + 1, none⟩ = some (.slice tp.a1 tp.n1 tp.c1) ∧ w'.cell? ⟨bx, ox + q * 3 + 2, none⟩ = some (.slice tp.a2 tp.n2 tp.c2)) W) := fun W hW => (htp W (below_step S.bl hW)).1
          obtain ⟨SZ, hSZ⟩ : ∃ s, szj J0 (n - (q + 1)) = s := ⟨_, rfl⟩
          rw [hSZ] at hRF
          have hSZ2 : szj J0 (n - q) = 2 * SZ + 2 * J0 + 6 := by rw [← hSZ, show n - q = n - (q + 1) + 1 by omega]; rfl
          have hSZ3 : 2 * SZ + 2 * J0 + 6 ≤ szj J0 n := by rw [← hSZ2]; exact szj_mono J0 (by omega)
          have rx := unhide HRX q (by omega)
          have HRP : Hid (RS (x q) JB) := rx.mono (by have := unhide HJB; omega)
          have HR1 : Hid (RS ((1 : Int) : Rat) JB) := one_RSi.mono (by have := unhide HJB; omega)
          have HRN : Hid (RS (((1 : Int) : Rat) - x q) JB) := (one_RSi.sub' rx).mono (by have := unhide HJB; omega)
          have HRF : Hid (∀ j, RS (F j) JB) := fun j => (hRF j).mono (by have := unhide HJB; omega)
          have HRA0 : Hid (∀ j, RS (x q * F j) JB) := fun j => (rx.mul (hRF j)).mono (by have := unhide HJB; omega)
          have HRB0 : Hid (∀ j, RS ((((1 : Int) : Rat) - x q) * F j) JB) := fun j => ((one_RSi.sub' rx).mul (hRF j)).mono (by have := unhide HJB; omega)
          have HRZ : Hid (∀ i j, RS (mxr (x q) (2 ^ q) F i j) (szj J0 (n - q))) := fun i j => by rw [hSZ2]; exact mxr_RS rx hRF i j
          obtain ⟨Q, hQ⟩ : ∃ Q, 2 ^ q = Q := ⟨_, rfl⟩
          have hQM : Q + Q ≤ i := by
            rw [← unhide HM, ← hQ, ← Rsk.pow_succ2]
            exact Nat.pow_le_pow_right (by decide) hk
          have HWQ : Hid (wrap64 ((2 : Int) ^ q) = (Q : Int)) := show _ = _ by rw [wrap64_pow (Nat.le_trans hq10 (by decide)), hQ]
          have HQ2 := hide hQ
          have HLK : Hid (Rsk.lk x q (mxr (x q) Q F Q) = T) := by
            have := mxr_lk x q F
            rw [hQ, hlk] at this
            exact this
          rw [hQ] at HRZ
          have HS := hide S
          have HUL := hide hul
          have hQ1 : 1 ≤ Q := by rw [← hQ]; exact Nat.pow_pos (by decide)
          have HQQ := hide (And.intro hQ hQM)
          have HKN : Hid (q + 1 ≤ n) := hk
          clear S hul hlk hRF htp hSZ hSZ2 hSZ3 rx hz hk k0 hQ
          go_wp2_with fail
          refine wp_region_hold (fun w' : World => w'.cell? ⟨bx, ox + q * 3, none⟩ = some (.bool tp.s) ∧ w'.cell? ⟨bx, ox + q * 3 + 1, none⟩ = some (.slice tp.a1 tp.n1 tp.c1) ∧ w'.cell? ⟨bx, ox + q * 3 + 2, none⟩ = some (.slice tp.a2 tp.n2 tp.c2)) (by kernel_rfl) ?_
          have bd0 : Below wr.heap.size wr wr.drew := (Below.refl _ _).drew
          obtain ⟨Wx, hWx⟩ : ∃ W, wr.drew = W := ⟨_, rfl⟩
          rw [hWx] at bd0 ⊢
          have hC0 : (fun w' : World => w'.cell? ⟨bx, ox + q * 3, none⟩ = some (.bool tp.s) ∧ w'.cell? ⟨bx, ox + q * 3 + 1, none⟩ = some (.slice tp.a1 tp.n1 tp.c1) ∧ w'.cell? ⟨bx, ox + q * 3 + 2, none⟩ = some (.slice tp.a2 tp.n2 tp.c2)) Wx := unhide HC11 _ bd0
          refine wpHold_take (i := 1) (v := ?_) rfl (by kernel_rfl) (by kernel_rfl) (by kernel_rfl) (fun _ _ _ h => h) (Or.inl ⟨by rfl, ?_⟩) hC0 ?_
          rotate_left
          · intro w hSw; clear hSw; go_simp; (try with_reducible rfl)
          (try simp only [List.getElem_toArray, List.getElem_cons_succ, List.getElem_cons_zero])
          (try simp only [Act.put, List.setIfInBounds_toArray, List.set_cons_zero, List.set_cons_succ])
          refine wpHold_take (i := 2) (v := ?_) rfl (by kernel_rfl) (by kernel_rfl) (by kernel_rfl) (fun _ _ _ h => h) (Or.inl ⟨by rfl, ?_⟩) hC0 ?_
          rotate_left
          · intro w hSw; clear hSw; go_simp; (try with_reducible rfl)
          (try simp only [List.getElem_toArray, List.getElem_cons_succ, List.getElem_cons_zero])
          (try simp only [Act.put, List.setIfInBounds_toArray, List.set_cons_zero, List.set_cons_succ])
          refine wpHold_take (i := 3) (v := ?_) rfl (by kernel_rfl) (by kernel_rfl) (by kernel_rfl) (fun _ _ _ h => h) (Or.inl ⟨by rfl, ?_⟩) hC0 ?_
          rotate_left
          · intro w hSw; clear hSw; go_simp; (try with_reducible rfl)
          (try simp only [List.getElem_toArray, List.getElem_cons_succ, List.getElem_cons_zero])
          (try simp only [Act.put, List.setIfInBounds_toArray, List.set_cons_zero, List.set_cons_succ])
          refine wpHold_take (i := 4) (v := ?_) rfl (by kernel_rfl) (by kernel_rfl) (by kernel_rfl) (fun _ _ _ h => h) (Or.inl ⟨by rfl, ?_⟩) hC0 ?_
          rotate_left
          · intro w hSw; (try dsimp only at hSw); obtain ⟨u0, u1, u2⟩ := hSw; go_simp; (try with_reducible rfl)
          (try simp only [List.getElem_toArray, List.getElem_cons_succ, List.getElem_cons_zero])
          (try simp only [Act.put, List.setIfInBounds_toArray, List.set_cons_zero, List.set_cons_succ])
          refine wpHold_listed (n := 4) (L' := (fun nc nl => #[decide (1 ≤ nc), true, true, true, true, decide (2 ≤ nc), nl, false]) 0 false) (by kernel_rfl) (by kernel_rfl) ?_
          refine wpHold_name (fun a0 ha0 => ?_)
          refine two_one_any (fun nc nl => #[decide (1 ≤ nc), true, true, true, true, decide (2 ≤ nc), nl, false]) 0 5 6 1 (fun nc nl na W => ∃ s1 s2 s3, na = ((a0.put (some 35) s1).put (some 40) s2).put (some 8) s3 ∧ TwoJ (((1 : Int) : Rat)) (((1 : Int) : Rat) - x q) Wx nc nl W s1 s2 s3) ?_ ?_ (fun l => rfl) (fun l => rfl) (fun c => rfl) ?_ ?_ ?_ ?_ 3 0 false (by omega) (by rfl) _ _ ⟨u35, u40, u8, by subst ha0; rfl, Below.refl _ _, fun h => absurd h (by decide), fun h => absurd h (by decide), fun h => by cases h⟩
          · clear ha0
            intro nc nl hnc
            match nc, hnc with
            | 0, _ => cases nl <;> (show (_ : Bool) = _; kernel_rfl)
            | 1, _ => cases nl <;> (show (_ : Bool) = _; kernel_rfl)
            | 2, _ => cases nl <;> (show (_ : Bool) = _; kernel_rfl)
          · clear ha0
            intro nc nl hnc
            match nc, hnc with
            | 0, _ => cases nl <;> (intro _; show (_ : Bool) = _; kernel_rfl)
            | 1, _ => cases nl <;> (intro _; show (_ : Bool) = _; kernel_rfl)
            | 2, _ => cases nl <;> (intro h; first | (show (_ : Bool) = _; kernel_rfl) | exact absurd h (by decide))
          · rintro nl na wv ⟨s1, s2, s3, rfl, J⟩
            subst ha0
            refine wpOp_step rfl (fun K hK => ?_)
            (try simp only [Act.put, List.setIfInBounds_toArray, List.set_cons_zero, List.set_cons_succ] at hK ⊢)
            (try simp only [List.getElem_toArray, List.getElem_cons_succ, List.getElem_cons_zero])
            go_simp
            refine (whole_any 1 (by decide) (by decide) wv).mono ?_
            rintro e wz ⟨v, rfl, hv, hb⟩
            exact hK _ _ ⟨unhide HC11 _ (below_step bd0 (below_step J.bl hb)), v, s2, s3, rfl, below_step J.bl hb, fun _ => hv, fun h => absurd h (by decide), fun h => by
              obtain ⟨b, e1, e2, e3⟩ := J.al h
              exact ⟨b, e1, e2.keep hb, e3⟩⟩
          · rintro nl na wv ⟨s1, s2, s3, rfl, J⟩
            subst ha0
            refine wpOp_step rfl (fun K hK => ?_)
            (try simp only [Act.put, List.setIfInBounds_toArray, List.set_cons_zero, List.set_cons_succ] at hK ⊢)
            (try simp only [List.getElem_toArray, List.getElem_cons_succ, List.getElem_cons_zero])
            go_simp
            refine (subR_any s1 tp.val _ (x q) wv (J.r1 (by decide)) ((unhide HTP).below (below_step bd0 J.bl)) JB (unhide HR1) (unhide HRP) (unhide HJ)).mono ?_
            rintro e wz ⟨v, rfl, hv, hb⟩
            exact hK _ _ ⟨unhide HC11 _ (below_step bd0 (below_step J.bl hb)), s1, v, s3, rfl, below_step J.bl hb, fun _ => (J.r1 (by decide)).below hb, fun _ => hv, fun h => by
              obtain ⟨b, e1, e2, e3⟩ := J.al h
              exact ⟨b, e1, e2.keep hb, e3⟩⟩
          · rintro nc na wv ⟨s1, s2, s3, rfl, J⟩
            subst ha0
            refine wpOp_step rfl (fun K hK => ?_)
            (try simp only [Act.put, List.setIfInBounds_toArray, List.set_cons_zero, List.set_cons_succ] at hK ⊢)
            (try simp only [List.getElem_toArray, List.getElem_cons_succ, List.getElem_cons_zero])
            go_simp
            have hb := alloc_below wv (.cells #[.bool false, .slice none 0 0, .slice none 0 0] 31)
            exact hK _ _ ⟨unhide HC11 _ (below_step bd0 (below_step J.bl hb)), s1, s2, .pointer (some ⟨wv.heap.size, 0, none⟩), rfl, below_step J.bl hb, fun h => (J.r1 h).below hb, fun h => (J.r2 h).below hb, fun _ => ⟨wv.heap.size, rfl, BoxIs.new (t := zTri) (rat_zero _), J.bl.size⟩⟩
          · rintro na wv ⟨s1, s2, s3, rfl, J⟩
            subst ha0
            obtain ⟨bn, rfl, B10, e10⟩ := J.al rfl
            obtain ⟨tn, rfl, r0⟩ := tri_of (J.r2 (by decide))
            simp only [Tri.val]
            (try simp only [Act.put, List.setIfInBounds_toArray, List.set_cons_zero, List.set_cons_succ])
            have ⟨l0, l1, l2⟩ := B10.free
            have ⟨k0, k1, k2⟩ := B10.cells _ (Below.refl _ _)
            have NB := B10.set r0
            have e10' : wr.heap.size ≤ bn := Nat.le_trans bd0.size e10
            have YB := (((below_step bd0 J.bl).setCell (p := ⟨bn, 0, none⟩) e10' (.bool tn.s)).setCell (p := ⟨bn, 1, none⟩) e10' (.slice tn.a1 tn.n1 tn.c1)).setCell (p := ⟨bn, 2, none⟩) e10' (.slice tn.a2 tn.n2 tn.c2)
            have HG_bn := hide e10'
            have hCn : (fun w' : World => w'.cell? ⟨bx, ox + q * 3, none⟩ = some (.bool tp.s) ∧ w'.cell? ⟨bx, ox + q * 3 + 1, none⟩ = some (.slice tp.a1 tp.n1 tp.c1) ∧ w'.cell? ⟨bx, ox + q * 3 + 2, none⟩ = some (.slice tp.a2 tp.n2 tp.c2)) _ := unhide HC11 _ YB
            obtain ⟨Wbn, hWy⟩ : ∃ W, ((wv.setCell ⟨bn, 0, none⟩ (.bool tn.s)).setCell ⟨bn, 1, none⟩ (.slice tn.a1 tn.n1 tn.c1)).setCell ⟨bn, 2, none⟩ (.slice tn.a2 tn.n2 tn.c2) = W := ⟨_, rfl⟩
            rw [hWy] at NB YB hCn
            have HX_bn := hide NB
            have HY_bn := hide YB
            clear J B10 r0 hC0 YB NB e10'
            refine wpHold_one (k := 7) (by kernel_rfl) rfl (fun K hK => ?_)
            (try simp only [List.getElem_toArray, List.getElem_cons_succ, List.getElem_cons_zero])
            go_simp
            refine hK.out _ _ hCn ?_
            clear hK K
            (try simp only [Act.put, List.setIfInBounds_toArray, List.set_cons_zero, List.set_cons_succ])
            refine wpHold_done (by kernel_rfl) ?_ _
            clear hCn l0 l1 l2 k0 k1 k2 hWy e10 bd0 hWx
            have HSb := hide ((unhide HS).keep (unhide HY_bn))
            have HNE : Hid (bn ≠ GO) := fun e => by
              have h1 := (Array.getElem?_eq_some_iff.1 (unhide HS).row).1
              have := unhide HG_bn
              omega
            rw [mxr_zero (x q) Q F i] at HSb
            have HG2 : Hid (W0.heap.size ≤ bn) := Nat.le_trans (unhide HS).bl.size (unhide HG_bn)
            clear HC11 HTP HS
            have hwq := unhide HWQ
            go_wp2_with fail
            clear hwq
            rw [unhide HWQ]
            go_loopw [43] (fun vm wv => ∃ (m : Nat) (us : List Tri), vm = .int .i64 (m : Int) ∧ m ≤ Q ∧ us.length = i ∧ SumsAt W0 wv GO us (row (mxr (x q) Q F m) i) ∧ BoxIs wv bn tn (((1 : Int) : Rat) - x q)) (fun vm _ => Q - (intOf vm).toNat)
            case atStart => exact ⟨0, us, rfl, Nat.zero_le _, unhide HUL, unhide HSb, unhide HX_bn⟩
            case round =>
              obtain ⟨m, us, rfl, hm, hul, S, XN⟩ := hrel
              clear HSb HX_bn HUL
              by_cases hlm : m < Q
              · have j4 : (m : Int) < (Q : Int) := by omega
                have j5 : (0 : Int) ≤ (m : Int) := by omega
                obtain ⟨d, hd⟩ : ∃ d, m + Q = d := ⟨_, rfl⟩
                have hdM : d < i := by have := (unhide HQQ).2; omega
                have hmM : m < i := by omega
                have j6 : (d : Int) < (i : Int) := by omega
                have j7 : (0 : Int) ≤ (d : Int) := by omega
                have j8 : (m : Int) < (i : Int) := by omega
                have hmQ : m ||| Q = d := by
                  rw [← hd, ← unhide HQ2]
                  exact Rsk.or_bit (Rsk.bit_low (by rw [unhide HQ2]; exact hlm))
                have HOR : Hid (bits .or .i64 (m : Int) (Q : Int) = (d : Int)) := show _ = _ by
                  rw [bits_or_i64 m Q (by omega) (by omega), hmQ]
                have ⟨⟨p0, p1, p2⟩, _⟩ := S.cells d (by omega)
                have rd := S.rat d (by omega)
                rw [row_get hdM] at rd
                have ed : mxr (x q) Q F m d = F d := by unfold mxr; rw [if_neg (by omega)]
                rw [ed] at rd
                have ⟨⟨q0, q1, q2⟩, _⟩ := S.cells m (by omega)
                have rm := S.rat m (by omega)
                rw [row_get hmM] at rm
                have em : mxr (x q) Q F m m = F m := by unfold mxr; rw [if_neg (Nat.lt_irrefl _)]
                rw [em] at rm
                obtain ⟨tw, htw⟩ : ∃ t, us[d]! = t := ⟨_, rfl⟩
                rw [htw] at p0 p1 p2 rd
                obtain ⟨ta, hta⟩ : ∃ t, us[m]! = t := ⟨_, rfl⟩
                rw [hta] at q0 q1 q2 rm
                have hGl : GO < wr.heap.size := (Array.getElem?_eq_some_iff.1 S.row).1
                have bW := alloc_below wr (.cells #[.bool tw.s, .slice tw.a1 tw.n1 tw.c1, .slice tw.a2 tw.n2 tw.c2] 31)
                have Xw := BoxIs.new rd
                obtain ⟨Ww, hWw⟩ : ∃ W, wr.alloc (.cells #[.bool tw.s, .slice tw.a1 tw.n1 tw.c1, .slice tw.a2 tw.n2 tw.c2] 31) = W := ⟨_, rfl⟩
                obtain ⟨bw, hbw⟩ : ∃ b, wr.heap.size = b := ⟨_, rfl⟩
                rw [hWw] at bW Xw
                rw [hbw] at Xw
                have HXW := hide Xw
                have HXN := hide (XN.keep bW)
                have HS5 := hide (S.keep bW)
                have hWb := below_step S.bl bW
                have HCC : Hid (∀ W, Below Ww.heap.size Ww W → (fun w' : World => (w'.cell? ⟨bx, ox + q * 3, none⟩ = some (.bool tp.s) ∧ w'.cell? ⟨bx, ox + q * 3 + 1, none⟩ = some (.slice tp.a1 tp.n1 tp.c1) ∧ w'.cell? ⟨bx, ox + q * 3 + 2, none⟩ = some (.slice tp.a2 tp.n2 tp.c2)) ∧ (w'.cell? ⟨bw, 0, none⟩ = some (.bool tw.s) ∧ w'.cell? ⟨bw, 1, none⟩ = some (.slice tw.a1 tw.n1 tw.c1) ∧ w'.cell? ⟨bw, 2, none⟩ = some (.slice tw.a2 tw.n2 tw.c2)) ∧ (w'.cell? ⟨bn, 0, none⟩ = some (.bool tn.s) ∧ w'.cell? ⟨bn, 1, none⟩ = some (.slice tn.a1 tn.n1 tn.c1) ∧ w'.cell? ⟨bn, 2, none⟩ = some (.slice tn.a2 tn.n2 tn.c2)) ∧ (w'.cell? ⟨GO, m * 3, none⟩ = some (.bool ta.s) ∧ w'.cell? ⟨GO, m * 3 + 1, none⟩ = some (.slice ta.a1 ta.n1 ta.c1) ∧ w'.cell? ⟨GO, m * 3 + 2, none⟩ = some (.slice ta.a2 ta.n2 ta.c2))) W) := fun W hW => by
                  have h2 := below_step bW hW
                  refine ⟨(unhide HTPC W (below_step hWb hW)).1, (unhide HXW).cells W hW, (unhide HXN).cells W hW, ?_, ?_, ?_⟩
                  · rw [h2.cell (p := ⟨GO, m * 3, none⟩) hGl]; exact q0
                  · rw [h2.cell (p := ⟨GO, m * 3 + 1, none⟩) hGl]; exact q1
                  · rw [h2.cell (p := ⟨GO, m * 3 + 2, none⟩) hGl]; exact q2
                have HTP2 := hide (unhide HTPC Ww hWb).2
                have HTW := hide Xw.2
                have HTN := hide (unhide HXN).2
                have HTA := hide (rm.below bW)
                have HRD := hide (unhide HRF d)
                have HRI := hide (unhide HRF m)
                have HRA := hide (unhide HRA0 d)
                have HRB := hide (unhide HRB0 m)
                have HUL := hide hul
                have HIM := hide hmM
                have HLM := hide hlm
                have HQV : Hid ((row (mxr (x q) Q F m) i).set m (x q * F d + (((1 : Int) : Rat) - x q) * F m) = row (mxr (x q) Q F (m + 1)) i) := by
                  show _ = _
                  rw [← hd]
                  exact mxr_set (x q) F hmM
                clear S XN hul rd rm ed em htw hta hGl bW Xw hWb hd hmQ q0 q1 q2 hdM hmM
                have hwq := unhide HWQ
                have hor := unhide HOR
                go_wp2_with fail
                clear hWw hbw hwq hor p0 p1 p2
                refine wp_region_till (fun w' : World => (w'.cell? ⟨bx, ox + q * 3, none⟩ = some (.bool tp.s) ∧ w'.cell? ⟨bx, ox + q * 3 + 1, none⟩ = some (.slice tp.a1 tp.n1 tp.c1) ∧ w'.cell? ⟨bx, ox + q * 3 + 2, none⟩ = some (.slice tp.a2 tp.n2 tp.c2)) ∧ (w'.cell? ⟨bw, 0, none⟩ = some (.bool tw.s) ∧ w'.cell? ⟨bw, 1, none⟩ = some (.slice tw.a1 tw.n1 tw.c1) ∧ w'.cell? ⟨bw, 2, none⟩ = some (.slice tw.a2 tw.n2 tw.c2)) ∧ (w'.cell? ⟨bn, 0, none⟩ = some (.bool tn.s) ∧ w'.cell? ⟨bn, 1, none⟩ = some (.slice tn.a1 tn.n1 tn.c1) ∧ w'.cell? ⟨bn, 2, none⟩ = some (.slice tn.a2 tn.n2 tn.c2)) ∧ (w'.cell? ⟨GO, m * 3, none⟩ = some (.bool ta.s) ∧ w'.cell? ⟨GO, m * 3 + 1, none⟩ = some (.slice ta.a1 ta.n1 ta.c1) ∧ w'.cell? ⟨GO, m * 3 + 2, none⟩ = some (.slice ta.a2 ta.n2 ta.c2))) 16 (by kernel_rfl) ?_
                have bd0 : Below Ww.heap.size Ww Ww.drew := (Below.refl _ _).drew
                obtain ⟨Wd, hWd⟩ : ∃ W, Ww.drew = W := ⟨_, rfl⟩
                rw [hWd] at bd0 ⊢
                have hC0 : (fun w' : World => (w'.cell? ⟨bx, ox + q * 3, none⟩ = some (.bool tp.s) ∧ w'.cell? ⟨bx, ox + q * 3 + 1, none⟩ = some (.slice tp.a1 tp.n1 tp.c1) ∧ w'.cell? ⟨bx, ox + q * 3 + 2, none⟩ = some (.slice tp.a2 tp.n2 tp.c2)) ∧ (w'.cell? ⟨bw, 0, none⟩ = some (.bool tw.s) ∧ w'.cell? ⟨bw, 1, none⟩ = some (.slice tw.a1 tw.n1 tw.c1) ∧ w'.cell? ⟨bw, 2, none⟩ = some (.slice tw.a2 tw.n2 tw.c2)) ∧ (w'.cell? ⟨bn, 0, none⟩ = some (.bool tn.s) ∧ w'.cell? ⟨bn, 1, none⟩ = some (.slice tn.a1 tn.n1 tn.c1) ∧ w'.cell? ⟨bn, 2, none⟩ = some (.slice tn.a2 tn.n2 tn.c2)) ∧ (w'.cell? ⟨GO, m * 3, none⟩ = some (.bool ta.s) ∧ w'.cell? ⟨GO, m * 3 + 1, none⟩ = some (.slice ta.a1 ta.n1 ta.c1) ∧ w'.cell? ⟨GO, m * 3 + 2, none⟩ = some (.slice ta.a2 ta.n2 ta.c2))) Wd := unhide HCC _ bd0
                refine wpTill_pure (i := 0) (v := ?_) rfl (by kernel_rfl) (by kernel_rfl) (by kernel_rfl) (by kernel_rfl) (fun _ _ _ h => h) (Or.inl ⟨by rfl, ?_⟩) (fun _ => hC0) ?_
                rotate_left
                · intro w hSw; clear hSw; go_simp; (try with_reducible rfl)
                (try simp only [List.getElem_toArray, List.getElem_cons_succ, List.getElem_cons_zero])
                (try simp only [Act.put, List.setIfInBounds_toArray, List.set_cons_zero, List.set_cons_succ])
                refine wpTill_pure (i := 1) (v := ?_) rfl (by kernel_rfl) (by kernel_rfl) (by kernel_rfl) (by kernel_rfl) (fun _ _ _ h => h) (Or.inl ⟨by rfl, ?_⟩) (fun _ => hC0) ?_
                rotate_left
                · intro w hSw; clear hSw; go_simp; (try with_reducible rfl)
                (try simp only [List.getElem_toArray, List.getElem_cons_succ, List.getElem_cons_zero])
                (try simp only [Act.put, List.setIfInBounds_toArray, List.set_cons_zero, List.set_cons_succ])
                refine wpTill_pure (i := 2) (v := ?_) rfl (by kernel_rfl) (by kernel_rfl) (by kernel_rfl) (by kernel_rfl) (fun _ _ _ h => h) (Or.inl ⟨by rfl, ?_⟩) (fun _ => hC0) ?_
                rotate_left
                · intro w hSw; clear hSw; go_simp; (try with_reducible rfl)
                (try simp only [List.getElem_toArray, List.getElem_cons_succ, List.getElem_cons_zero])
                (try simp only [Act.put, List.setIfInBounds_toArray, List.set_cons_zero, List.set_cons_succ])
                refine wpTill_pure (i := 3) (v := ?_) rfl (by kernel_rfl) (by kernel_rfl) (by kernel_rfl) (by kernel_rfl) (fun _ _ _ h => h) (Or.inl ⟨by rfl, ?_⟩) (fun _ => hC0) ?_
                rotate_left
                · intro w hSw; clear hSw; go_simp; (try with_reducible rfl)
                (try simp only [List.getElem_toArray, List.getElem_cons_succ, List.getElem_cons_zero])
                (try simp only [Act.put, List.setIfInBounds_toArray, List.set_cons_zero, List.set_cons_succ])
                refine wpTill_pure (i := 4) (v := ?_) rfl (by kernel_rfl) (by kernel_rfl) (by kernel_rfl) (by kernel_rfl) (fun _ _ _ h => h) (Or.inl ⟨by rfl, ?_⟩) (fun _ => hC0) ?_
                rotate_left
                · intro w hSw; clear hSw; go_simp; (try with_reducible rfl)
                (try simp only [List.getElem_toArray, List.getElem_cons_succ, List.getElem_cons_zero])
                (try simp only [Act.put, List.setIfInBounds_toArray, List.set_cons_zero, List.set_cons_succ])
                refine wpTill_take (i := 5) (v := ?_) rfl (by kernel_rfl) (by kernel_rfl) (by kernel_rfl) (by kernel_rfl) (by kernel_rfl) (by kernel_rfl) (fun _ _ _ h => h) (Or.inl ⟨by rfl, ?_⟩) hC0 ?_
                rotate_left
                · intro w hSw; (try dsimp only at hSw); obtain ⟨⟨u0, u1, u2⟩, ⟨u3, u4, u5⟩, ⟨u6, u7, u8⟩, u9, u10, u11⟩ := hSw; go_simp; (try with_reducible rfl)
                (try simp only [List.getElem_toArray, List.getElem_cons_succ, List.getElem_cons_zero])
                (try simp only [Act.put, List.setIfInBounds_toArray, List.set_cons_zero, List.set_cons_succ])
                refine wpTill_take (i := 6) (v := ?_) rfl (by kernel_rfl) (by kernel_rfl) (by kernel_rfl) (by kernel_rfl) (by kernel_rfl) (by kernel_rfl) (fun _ _ _ h => h) (Or.inl ⟨by rfl, ?_⟩) hC0 ?_
                rotate_left
                · intro w hSw; (try dsimp only at hSw); obtain ⟨⟨u0, u1, u2⟩, ⟨u3, u4, u5⟩, ⟨u6, u7, u8⟩, u9, u10, u11⟩ := hSw; go_simp; (try with_reducible rfl)
                (try simp only [List.getElem_toArray, List.getElem_cons_succ, List.getElem_cons_zero])
                (try simp only [Act.put, List.setIfInBounds_toArray, List.set_cons_zero, List.set_cons_succ])
                refine wpTill_take (i := 8) (v := ?_) rfl (by kernel_rfl) (by kernel_rfl) (by kernel_rfl) (by kernel_rfl) (by kernel_rfl) (by kernel_rfl) (fun _ _ _ h => h) (Or.inl ⟨by rfl, ?_⟩) hC0 ?_
                rotate_left
                · intro w hSw; (try dsimp only at hSw); obtain ⟨⟨u0, u1, u2⟩, ⟨u3, u4, u5⟩, ⟨u6, u7, u8⟩, u9, u10, u11⟩ := hSw; go_simp; (try with_reducible rfl)
                (try simp only [List.getElem_toArray, List.getElem_cons_succ, List.getElem_cons_zero])
                (try simp only [Act.put, List.setIfInBounds_toArray, List.set_cons_zero, List.set_cons_succ])
                refine wpTill_pure (i := 9) (v := ?_) rfl (by kernel_rfl) (by kernel_rfl) (by kernel_rfl) (by kernel_rfl) (fun _ _ _ h => h) (Or.inl ⟨by rfl, ?_⟩) (fun _ => hC0) ?_
                rotate_left
                · intro w hSw; clear hSw; go_simp; (try with_reducible rfl)
                (try simp only [List.getElem_toArray, List.getElem_cons_succ, List.getElem_cons_zero])
                (try simp only [Act.put, List.setIfInBounds_toArray, List.set_cons_zero, List.set_cons_succ])
                refine wpTill_pure (i := 10) (v := ?_) rfl (by kernel_rfl) (by kernel_rfl) (by kernel_rfl) (by kernel_rfl) (fun _ _ _ h => h) (Or.inl ⟨by rfl, ?_⟩) (fun _ => hC0) ?_
                rotate_left
                · intro w hSw; clear hSw; go_simp; (try with_reducible rfl)
                (try simp only [List.getElem_toArray, List.getElem_cons_succ, List.getElem_cons_zero])
                (try simp only [Act.put, List.setIfInBounds_toArray, List.set_cons_zero, List.set_cons_succ])
                refine wpTill_pure (i := 11) (v := ?_) rfl (by kernel_rfl) (by kernel_rfl) (by kernel_rfl) (by kernel_rfl) (fun _ _ _ h => h) (Or.inl ⟨by rfl, ?_⟩) (fun _ => hC0) ?_
                rotate_left
                · intro w hSw; clear hSw; go_simp; (try with_reducible rfl)
                (try simp only [List.getElem_toArray, List.getElem_cons_succ, List.getElem_cons_zero])
                (try simp only [Act.put, List.setIfInBounds_toArray, List.set_cons_zero, List.set_cons_succ])
                refine wpTill_take (i := 12) (v := ?_) rfl (by kernel_rfl) (by kernel_rfl) (by kernel_rfl) (by kernel_rfl) (by kernel_rfl) (by kernel_rfl) (fun _ _ _ h => h) (Or.inl ⟨by rfl, ?_⟩) hC0 ?_
                rotate_left
                · intro w hSw; (try dsimp only at hSw); obtain ⟨⟨u0, u1, u2⟩, ⟨u3, u4, u5⟩, ⟨u6, u7, u8⟩, u9, u10, u11⟩ := hSw; go_simp; (try with_reducible rfl)
                (try simp only [List.getElem_toArray, List.getElem_cons_succ, List.getElem_cons_zero])
                (try simp only [Act.put, List.setIfInBounds_toArray, List.set_cons_zero, List.set_cons_succ])
                refine wpTill_one (k := 7) (by kernel_rfl) rfl (fun K hK => ?_)
                (try simp only [List.getElem_toArray, List.getElem_cons_succ, List.getElem_cons_zero])
                go_simp
                refine (mulR_any tp.val tw.val (x q) (F d) _ ((unhide HTP2).below bd0) ((unhide HTW).below bd0) JB (unhide HRP) (unhide HRD) (unhide HJ)).mono ?_
                rintro e xw_1 ⟨xv_1, rfl, hv_1, hb_1⟩
                have cc_1 := below_step bd0 hb_1
                have hC_1 : (fun w' : World => (w'.cell? ⟨bx, ox + q * 3, none⟩ = some (.bool tp.s) ∧ w'.cell? ⟨bx, ox + q * 3 + 1, none⟩ = some (.slice tp.a1 tp.n1 tp.c1) ∧ w'.cell? ⟨bx, ox + q * 3 + 2, none⟩ = some (.slice tp.a2 tp.n2 tp.c2)) ∧ (w'.cell? ⟨bw, 0, none⟩ = some (.bool tw.s) ∧ w'.cell? ⟨bw, 1, none⟩ = some (.slice tw.a1 tw.n1 tw.c1) ∧ w'.cell? ⟨bw, 2, none⟩ = some (.slice tw.a2 tw.n2 tw.c2)) ∧ (w'.cell? ⟨bn, 0, none⟩ = some (.bool tn.s) ∧ w'.cell? ⟨bn, 1, none⟩ = some (.slice tn.a1 tn.n1 tn.c1) ∧ w'.cell? ⟨bn, 2, none⟩ = some (.slice tn.a2 tn.n2 tn.c2)) ∧ (w'.cell? ⟨GO, m * 3, none⟩ = some (.bool ta.s) ∧ w'.cell? ⟨GO, m * 3 + 1, none⟩ = some (.slice ta.a1 ta.n1 ta.c1) ∧ w'.cell? ⟨GO, m * 3 + 2, none⟩ = some (.slice ta.a2 ta.n2 ta.c2))) xw_1 := unhide HCC _ cc_1
                refine hK.out _ _ (fun _ => hC_1) ?_
                clear hK K
                (try simp only [Act.put, List.setIfInBounds_toArray, List.set_cons_zero, List.set_cons_succ])
                refine wpTill_one (k := 13) (by kernel_rfl) rfl (fun K hK => ?_)
                (try simp only [List.getElem_toArray, List.getElem_cons_succ, List.getElem_cons_zero])
                go_simp
                refine (mulR_any tn.val ta.val (((1 : Int) : Rat) - x q) (F m) _ ((unhide HTN).below cc_1) ((unhide HTA).below cc_1) JB (unhide HRN) (unhide HRI) (unhide HJ)).mono ?_
                rintro e xw_2 ⟨xv_2, rfl, hv_2, hb_2⟩
                have cc_2 := below_step cc_1 hb_2
                have hC_2 : (fun w' : World => (w'.cell? ⟨bx, ox + q * 3, none⟩ = some (.bool tp.s) ∧ w'.cell? ⟨bx, ox + q * 3 + 1, none⟩ = some (.slice tp.a1 tp.n1 tp.c1) ∧ w'.cell? ⟨bx, ox + q * 3 + 2, none⟩ = some (.slice tp.a2 tp.n2 tp.c2)) ∧ (w'.cell? ⟨bw, 0, none⟩ = some (.bool tw.s) ∧ w'.cell? ⟨bw, 1, none⟩ = some (.slice tw.a1 tw.n1 tw.c1) ∧ w'.cell? ⟨bw, 2, none⟩ = some (.slice tw.a2 tw.n2 tw.c2)) ∧ (w'.cell? ⟨bn, 0, none⟩ = some (.bool tn.s) ∧ w'.cell? ⟨bn, 1, none⟩ = some (.slice tn.a1 tn.n1 tn.c1) ∧ w'.cell? ⟨bn, 2, none⟩ = some (.slice tn.a2 tn.n2 tn.c2)) ∧ (w'.cell? ⟨GO, m * 3, none⟩ = some (.bool ta.s) ∧ w'.cell? ⟨GO, m * 3 + 1, none⟩ = some (.slice ta.a1 ta.n1 ta.c1) ∧ w'.cell? ⟨GO, m * 3 + 2, none⟩ = some (.slice ta.a2 ta.n2 ta.c2))) xw_2 := unhide HCC _ cc_2
                refine hK.out _ _ (fun _ => hC_2) ?_
                clear hK K
                (try simp only [Act.put, List.setIfInBounds_toArray, List.set_cons_zero, List.set_cons_succ])
                refine wpTill_one (k := 14) (by kernel_rfl) rfl (fun K hK => ?_)
                (try simp only [List.getElem_toArray, List.getElem_cons_succ, List.getElem_cons_zero])
                go_simp
                refine (addR_any _ _ (x q * F d) ((((1 : Int) : Rat) - x q) * F m) _ (hv_1.below hb_2) hv_2 JB (unhide HRA) (unhide HRB) (unhide HJ)).mono ?_
                rintro e xw_3 ⟨xv_3, rfl, hv_3, hb_3⟩
                have cc_3 := below_step cc_2 hb_3
                have hC_3 : (fun w' : World => (w'.cell? ⟨bx, ox + q * 3, none⟩ = some (.bool tp.s) ∧ w'.cell? ⟨bx, ox + q * 3 + 1, none⟩ = some (.slice tp.a1 tp.n1 tp.c1) ∧ w'.cell? ⟨bx, ox + q * 3 + 2, none⟩ = some (.slice tp.a2 tp.n2 tp.c2)) ∧ (w'.cell? ⟨bw, 0, none⟩ = some (.bool tw.s) ∧ w'.cell? ⟨bw, 1, none⟩ = some (.slice tw.a1 tw.n1 tw.c1) ∧ w'.cell? ⟨bw, 2, none⟩ = some (.slice tw.a2 tw.n2 tw.c2)) ∧ (w'.cell? ⟨bn, 0, none⟩ = some (.bool tn.s) ∧ w'.cell? ⟨bn, 1, none⟩ = some (.slice tn.a1 tn.n1 tn.c1) ∧ w'.cell? ⟨bn, 2, none⟩ = some (.slice tn.a2 tn.n2 tn.c2)) ∧ (w'.cell? ⟨GO, m * 3, none⟩ = some (.bool ta.s) ∧ w'.cell? ⟨GO, m * 3 + 1, none⟩ = some (.slice ta.a1 ta.n1 ta.c1) ∧ w'.cell? ⟨GO, m * 3 + 2, none⟩ = some (.slice ta.a2 ta.n2 ta.c2))) xw_3 := unhide HCC _ cc_3
                refine hK.out _ _ (fun _ => hC_3) ?_
                clear hK K
                (try simp only [Act.put, List.setIfInBounds_toArray, List.set_cons_zero, List.set_cons_succ])
                refine wpTill_pure (i := 15) (v := ?_) rfl (by kernel_rfl) (by kernel_rfl) (by kernel_rfl) (by kernel_rfl) (fun _ _ _ h => h) (Or.inl ⟨by rfl, ?_⟩) (fun _ => hC_3) ?_
                rotate_left
                · intro w hSw; clear hSw; go_simp; (try with_reducible rfl)
                (try simp only [List.getElem_toArray, List.getElem_cons_succ, List.getElem_cons_zero])
                (try simp only [Act.put, List.setIfInBounds_toArray, List.set_cons_zero, List.set_cons_succ])
                obtain ⟨t5, rfl, r5⟩ := tri_of hv_3
                simp only [Tri.val]
                have S8 := (unhide HS5).keep cc_3
                have X8 := (unhide HXN).keep cc_3
                have ⟨⟨y0, y1, y2⟩, g0, g1, g2⟩ := S8.cells m (by rw [unhide HUL]; exact unhide HIM)
                have FZ := S8.set m (by rw [unhide HUL]; exact unhide HIM) t5 _ r5
                have XZ := X8.rowed S8.row (unhide HNE) (m * 3) (m * 3 + 1) (m * 3 + 2) (.bool t5.s) (.slice t5.a1 t5.n1 t5.c1) (.slice t5.a2 t5.n2 t5.c2)
                obtain ⟨WA, hWA⟩ : ∃ W, ((xw_3.setCell ⟨GO, m * 3, none⟩ (.bool t5.s)).setCell ⟨GO, m * 3 + 1, none⟩ (.slice t5.a1 t5.n1 t5.c1)).setCell ⟨GO, m * 3 + 2, none⟩ (.slice t5.a2 t5.n2 t5.c2) = W := ⟨_, rfl⟩
                rw [hWA, unhide HQV] at FZ
                rw [hWA] at XZ
                have HFZ := hide FZ
                have HXZ := hide XZ
                clear S8 X8 FZ XZ r5 hv_1 hv_2 hv_3
                refine wpTill_one (k := 16) (by kernel_rfl) rfl (fun K hK => ?_)
                (try simp only [List.getElem_toArray, List.getElem_cons_succ, List.getElem_cons_zero])
                go_simp
                refine hK.out _ _ (fun h => absurd (h.symm.trans (by kernel_rfl)) Bool.false_ne_true) ?_
                clear hK K
                (try simp only [Act.put, List.setIfInBounds_toArray, List.set_cons_zero, List.set_cons_succ])
                refine wpTill_done (by kernel_rfl) ?_ _
                clear HCC HTP2 HTW HTN HTA HRD HRI HRA HRB HXW HXN HS5 HQV y0 y1 y2 g0 g1 g2 hWA hC0 hC_1 hC_2 hC_3 cc_1 cc_2 cc_3 bd0 hb_1 hb_2 hb_3 hWd
                go_wp2_with fail
                exact ⟨⟨m + 1, _, by go_num, unhide HLM, by rw [List.length_set]; exact unhide HUL, unhide HFZ, unhide HXZ⟩, by have := unhide HLM; simp [intOf]; omega⟩
              · obtain rfl : m = Q := by omega
                have j4 : ¬ (m : Int) < (m : Int) := by omega
                have HS := hide S
                have HUL := hide hul
                clear S XN hul
                go_wp2_with fail
                exact ⟨⟨q, (q : Int) - 1, us, mxr (x q) m F m, by go_num, rfl, by have := unhide HKN; omega, unhide HUL, unhide HS, unhide HLK, fun j => unhide HRZ m j⟩, by (simp [intOf]) <;> omega⟩

end Go.Proofs.YtpopcfclpemlaaaDoor
/- Things of gates: the chances, Chance. -/
namespace Go.Proofs.YtpopcfclpemlaaaDoor
open Go.RowKit Go.Sort Go.Shelf

def icB (q : Rat) : Bool := decide (0 ≤ q ∧ q ≤ 1)
set_option maxHeartbeats 16000000 in
set_option maxRecDepth 100000 in
set_option linter.unusedSimpArgs false in
theorem ichance_any (v : Value) (q : Rat) (J : Nat) (w : World) (hp0 : RatIs w v q) (rq : RS q J) (h1 : 1 ≤ J) (hJ : J ≤ KK) :
    Calls Tryd.prog 56 #[v] w fun e w' => e = .returned (.bool (icB q)) ∧ Below w.heap.size w w' := by
  obtain ⟨tp, rfl, hp⟩ := tri_of hp0
  simp only [Tri.val]
  have bb_1 := alloc_below w (.cells #[.bool tp.s, .slice tp.a1 tp.n1 tp.c1, .slice tp.a2 tp.n2 tp.c2] 31)
  have X_1 := BoxIs.new (hp)
  obtain ⟨W_1, hW_1⟩ : ∃ W, w.alloc (.cells #[.bool tp.s, .slice tp.a1 tp.n1 tp.c1, .slice tp.a2 tp.n2 tp.c2] 31) = W := ⟨_, rfl⟩
  obtain ⟨b_p, hb_p⟩ : ∃ b, w.heap.size = b := ⟨_, rfl⟩
  rw [hW_1] at bb_1 X_1
  rw [hb_p] at X_1
  have X_1_ := X_1
  have tb_1 := bb_1
  have hg_p : w.heap.size ≤ b_p := by rw [← hb_p]; exact Nat.le_refl _
  have HG_p := hide hg_p
  have HX_p := hide (fun W (hW : Below W_1.heap.size W_1 W) => X_1_.keep hW)
  have HBW := hide (fun W (hW : Below W_1.heap.size W_1 W) => below_step tb_1 hW)
  have HB0 := hide tb_1
  clear bb_1 X_1 X_1_ tb_1 hg_p
  have HCC : Hid (∀ W, Below W_1.heap.size W_1 W → (fun w' : World => w'.cell? ⟨b_p, 0, none⟩ = some (.bool tp.s) ∧ w'.cell? ⟨b_p, 1, none⟩ = some (.slice tp.a1 tp.n1 tp.c1) ∧ w'.cell? ⟨b_p, 2, none⟩ = some (.slice tp.a2 tp.n2 tp.c2)) W) := fun W hW => (unhide HX_p _ hW).cells _ (Below.refl _ _)
  have HTP := hide (unhide HX_p _ (Below.refl _ _)).2
  have HSG : Hid (∀ W, Below W_1.heap.size W_1 W → Calls Tryd.prog 19 #[.agg #[.bool tp.s, .slice tp.a1 tp.n1 tp.c1, .slice tp.a2 tp.n2 tp.c2]] W fun e w' => e = .returned (.int .i64 q.num.sign) ∧ Below W.heap.size W w') := fun W hW => sign_any tp.val q W ((unhide HTP).below hW)
  have HRQ := hide rq
  have HR1 : Hid (RS ((1 : Int) : Rat) J) := one_RSi.mono h1
  have HJ := hide hJ
  by_cases hneg : q < 0
  · have hb : icB q = false := decide_eq_false (fun h => by have := h.1; grind)
    have hs : q.num.sign = -1 := Int.sign_eq_neg_one_of_neg (by rcases Int.lt_or_le q.num 0 with a | a; exact a; exact absurd (Rat.num_nonneg.1 a) (by grind))
    rw [hs] at HSG
    rw [hb]
    clear hp0 hp rq h1 hJ hneg hb hs
    go_enter Tryd.func56, Tryd.ntmps56
    go_wp2_with fail
    clear hW_1 hb_p
    refine wp_region_hold (fun w' : World => w'.cell? ⟨b_p, 0, none⟩ = some (.bool tp.s) ∧ w'.cell? ⟨b_p, 1, none⟩ = some (.slice tp.a1 tp.n1 tp.c1) ∧ w'.cell? ⟨b_p, 2, none⟩ = some (.slice tp.a2 tp.n2 tp.c2)) (by kernel_rfl) ?_
    have bd0 : Below W_1.heap.size W_1 W_1.drew := (Below.refl _ _).drew
    have hC0 : (fun w' : World => w'.cell? ⟨b_p, 0, none⟩ = some (.bool tp.s) ∧ w'.cell? ⟨b_p, 1, none⟩ = some (.slice tp.a1 tp.n1 tp.c1) ∧ w'.cell? ⟨b_p, 2, none⟩ = some (.slice tp.a2 tp.n2 tp.c2)) W_1.drew := unhide HCC _ bd0
    refine wpHold_take (i := 0) (v := ?_) rfl (by kernel_rfl) (by kernel_rfl) (by kernel_rfl) (fun _ _ _ h => h) (Or.inl ⟨by rfl, ?_⟩) hC0 ?_
    rotate_left
    · intro w hSw; (try dsimp only at hSw); obtain ⟨u0, u1, u2⟩ := hSw; go_simp; (try with_reducible rfl)
    (try simp only [List.getElem_toArray, List.getElem_cons_succ, List.getElem_cons_zero])
    (try simp only [Act.put, List.setIfInBounds_toArray, List.set_cons_zero, List.set_cons_succ])
    refine wpHold_one (k := 1) (by kernel_rfl) rfl (fun K hK => ?_)
    (try simp only [List.getElem_toArray, List.getElem_cons_succ, List.getElem_cons_zero])
    go_simp
    refine (unhide HSG _ bd0).mono ?_
    rintro e xw_1 ⟨rfl, hb_1⟩
    have cc_1 := below_step bd0 hb_1
    have hC_1 : (fun w' : World => w'.cell? ⟨b_p, 0, none⟩ = some (.bool tp.s) ∧ w'.cell? ⟨b_p, 1, none⟩ = some (.slice tp.a1 tp.n1 tp.c1) ∧ w'.cell? ⟨b_p, 2, none⟩ = some (.slice tp.a2 tp.n2 tp.c2)) xw_1 := unhide HCC _ cc_1
    refine hK.out _ _ hC_1 ?_
    clear hK K
    (try simp only [Act.put, List.setIfInBounds_toArray, List.set_cons_zero, List.set_cons_succ])
    refine wpHold_take (i := 2) (v := ?_) rfl (by kernel_rfl) (by kernel_rfl) (by kernel_rfl) (fun _ _ _ h => h) (Or.inl ⟨by rfl, ?_⟩) hC_1 ?_
    rotate_left
    · intro w hSw; clear hSw; go_simp; (try with_reducible rfl)
    (try simp only [List.getElem_toArray, List.getElem_cons_succ, List.getElem_cons_zero])
    (try simp only [Act.put, List.setIfInBounds_toArray, List.set_cons_zero, List.set_cons_succ])
    refine wpHold_take (i := 3) (v := ?_) rfl (by kernel_rfl) (by kernel_rfl) (by kernel_rfl) (fun _ _ _ h => h) (Or.inl ⟨by rfl, ?_⟩) hC_1 ?_
    rotate_left
    · intro w hSw; clear hSw; go_simp; (try with_reducible rfl)
    (try simp only [List.getElem_toArray, List.getElem_cons_succ, List.getElem_cons_zero])
    (try simp only [Act.put, List.setIfInBounds_toArray, List.set_cons_zero, List.set_cons_succ])
    refine wpHold_take (i := 4) (v := undef) rfl (by kernel_rfl) (by kernel_rfl) (by kernel_rfl) (fun _ _ _ h => h) (Or.inr ⟨by rfl, rfl⟩) hC_1 ?_
    (try simp only [List.getElem_toArray, List.getElem_cons_succ, List.getElem_cons_zero])
    (try simp only [Act.put, List.setIfInBounds_toArray, List.set_cons_zero, List.set_cons_succ])
    refine wpHold_take (i := 5) (v := undef) rfl (by kernel_rfl) (by kernel_rfl) (by kernel_rfl) (fun _ _ _ h => h) (Or.inr ⟨by rfl, rfl⟩) hC_1 ?_
    (try simp only [List.getElem_toArray, List.getElem_cons_succ, List.getElem_cons_zero])
    (try simp only [Act.put, List.setIfInBounds_toArray, List.set_cons_zero, List.set_cons_succ])
    refine wpHold_take (i := 6) (v := undef) rfl (by kernel_rfl) (by kernel_rfl) (by kernel_rfl) (fun _ _ _ h => h) (Or.inr ⟨by rfl, rfl⟩) hC_1 ?_
    (try simp only [List.getElem_toArray, List.getElem_cons_succ, List.getElem_cons_zero])
    (try simp only [Act.put, List.setIfInBounds_toArray, List.set_cons_zero, List.set_cons_succ])
    refine wpHold_take (i := 7) (v := undef) rfl (by kernel_rfl) (by kernel_rfl) (by kernel_rfl) (fun _ _ _ h => h) (Or.inr ⟨by rfl, rfl⟩) hC_1 ?_
    (try simp only [List.getElem_toArray, List.getElem_cons_succ, List.getElem_cons_zero])
    (try simp only [Act.put, List.setIfInBounds_toArray, List.set_cons_zero, List.set_cons_succ])
    refine wpHold_take (i := 8) (v := ?_) rfl (by kernel_rfl) (by kernel_rfl) (by kernel_rfl) (fun _ _ _ h => h) (Or.inl ⟨by rfl, ?_⟩) hC_1 ?_
    rotate_left
    · intro w hSw; clear hSw; go_simp; (try with_reducible rfl)
    (try simp only [List.getElem_toArray, List.getElem_cons_succ, List.getElem_cons_zero])
    (try simp only [Act.put, List.setIfInBounds_toArray, List.set_cons_zero, List.set_cons_succ])
    refine wpHold_take (i := 9) (v := ?_) rfl (by kernel_rfl) (by kernel_rfl) (by kernel_rfl) (fun _ _ _ h => h) (Or.inl ⟨by rfl, ?_⟩) hC_1 ?_
    rotate_left
    · intro w hSw; clear hSw; go_simp; (try with_reducible rfl)
    (try simp only [List.getElem_toArray, List.getElem_cons_succ, List.getElem_cons_zero])
    (try simp only [Act.put, List.setIfInBounds_toArray, List.set_cons_zero, List.set_cons_succ])
    refine wpHold_done (by kernel_rfl) ?_ _
    have HFB := hide (unhide HBW _ cc_1)
    go_wp2
    go_ret
    exact ⟨rfl, unhide HFB⟩
  · have h0 : 0 ≤ q := by grind
    have hs0 : 0 ≤ q.num.sign := sign_nn' (Rat.num_nonneg.2 h0)
    obtain ⟨y, hy⟩ : ∃ y, q.num.sign = y := ⟨_, rfl⟩
    rw [hy] at HSG hs0
    have e1 : ((1 : Int) : Rat) = 1 := by simp
    by_cases hle : q ≤ 1
    · have hb : icB q = true := decide_eq_true ⟨h0, hle⟩
      obtain ⟨z, hz⟩ : ∃ z, cmpv q ((1 : Int) : Rat) = z := ⟨_, rfl⟩
      have HCV := hide hz
      have hz0 : z ≤ 0 := by rw [← hz, e1]; exact (cmpv_le hle).2
      rw [hb]
      clear hp0 hp rq h1 hJ hneg hb hy hz h0 hle
      go_enter Tryd.func56, Tryd.ntmps56
      go_wp2_with fail
      clear hW_1 hb_p
      refine wp_region_hold (fun w' : World => w'.cell? ⟨b_p, 0, none⟩ = some (.bool tp.s) ∧ w'.cell? ⟨b_p, 1, none⟩ = some (.slice tp.a1 tp.n1 tp.c1) ∧ w'.cell? ⟨b_p, 2, none⟩ = some (.slice tp.a2 tp.n2 tp.c2)) (by kernel_rfl) ?_
      have bd0 : Below W_1.heap.size W_1 W_1.drew := (Below.refl _ _).drew
      have hC0 : (fun w' : World => w'.cell? ⟨b_p, 0, none⟩ = some (.bool tp.s) ∧ w'.cell? ⟨b_p, 1, none⟩ = some (.slice tp.a1 tp.n1 tp.c1) ∧ w'.cell? ⟨b_p, 2, none⟩ = some (.slice tp.a2 tp.n2 tp.c2)) W_1.drew := unhide HCC _ bd0
      refine wpHold_take (i := 0) (v := ?_) rfl (by kernel_rfl) (by kernel_rfl) (by kernel_rfl) (fun _ _ _ h => h) (Or.inl ⟨by rfl, ?_⟩) hC0 ?_
      rotate_left
      · intro w hSw; (try dsimp only at hSw); obtain ⟨u0, u1, u2⟩ := hSw; go_simp; (try with_reducible rfl)
      (try simp only [List.getElem_toArray, List.getElem_cons_succ, List.getElem_cons_zero])
      (try simp only [Act.put, List.setIfInBounds_toArray, List.set_cons_zero, List.set_cons_succ])
      refine wpHold_one (k := 1) (by kernel_rfl) rfl (fun K hK => ?_)
      (try simp only [List.getElem_toArray, List.getElem_cons_succ, List.getElem_cons_zero])
      go_simp
      refine (unhide HSG _ bd0).mono ?_
      rintro e xw_1 ⟨rfl, hb_1⟩
      have cc_1 := below_step bd0 hb_1
      have hC_1 : (fun w' : World => w'.cell? ⟨b_p, 0, none⟩ = some (.bool tp.s) ∧ w'.cell? ⟨b_p, 1, none⟩ = some (.slice tp.a1 tp.n1 tp.c1) ∧ w'.cell? ⟨b_p, 2, none⟩ = some (.slice tp.a2 tp.n2 tp.c2)) xw_1 := unhide HCC _ cc_1
      refine hK.out _ _ hC_1 ?_
      clear hK K
      (try simp only [Act.put, List.setIfInBounds_toArray, List.set_cons_zero, List.set_cons_succ])
      refine wpHold_take (i := 2) (v := ?_) rfl (by kernel_rfl) (by kernel_rfl) (by kernel_rfl) (fun _ _ _ h => h) (Or.inl ⟨by rfl, ?_⟩) hC_1 ?_
      rotate_left
      · intro w hSw; clear hSw; go_simp; (try with_reducible rfl)
      (try simp only [List.getElem_toArray, List.getElem_cons_succ, List.getElem_cons_zero])
      (try simp only [Act.put, List.setIfInBounds_toArray, List.set_cons_zero, List.set_cons_succ])
      refine wpHold_take (i := 3) (v := ?_) rfl (by kernel_rfl) (by kernel_rfl) (by kernel_rfl) (fun _ _ _ h => h) (Or.inl ⟨by rfl, ?_⟩) hC_1 ?_
      rotate_left
      · intro w hSw; clear hSw; go_simp; (try with_reducible rfl)
      (try simp only [List.getElem_toArray, List.getElem_cons_succ, List.getElem_cons_zero])
      (try simp only [Act.put, List.setIfInBounds_toArray, List.set_cons_zero, List.set_cons_succ])
      refine wpHold_take (i := 4) (v := ?_) rfl (by kernel_rfl) (by kernel_rfl) (by kernel_rfl) (fun _ _ _ h => h) (Or.inl ⟨by rfl, ?_⟩) hC_1 ?_
      rotate_left
      · intro w hSw; (try dsimp only at hSw); obtain ⟨u0, u1, u2⟩ := hSw; go_simp; (try with_reducible rfl)
      (try simp only [List.getElem_toArray, List.getElem_cons_succ, List.getElem_cons_zero])
      (try simp only [Act.put, List.setIfInBounds_toArray, List.set_cons_zero, List.set_cons_succ])
      refine wpHold_one (k := 5) (by kernel_rfl) rfl (fun K hK => ?_)
      (try simp only [List.getElem_toArray, List.getElem_cons_succ, List.getElem_cons_zero])
      go_simp
      refine (whole_any 1 (by decide) (by decide) _).mono ?_
      rintro e xw_2 ⟨xv_2, rfl, hv_2, hb_2⟩
      have cc_2 := below_step cc_1 hb_2
      have hC_2 : (fun w' : World => w'.cell? ⟨b_p, 0, none⟩ = some (.bool tp.s) ∧ w'.cell? ⟨b_p, 1, none⟩ = some (.slice tp.a1 tp.n1 tp.c1) ∧ w'.cell? ⟨b_p, 2, none⟩ = some (.slice tp.a2 tp.n2 tp.c2)) xw_2 := unhide HCC _ cc_2
      refine hK.out _ _ hC_2 ?_
      clear hK K
      (try simp only [Act.put, List.setIfInBounds_toArray, List.set_cons_zero, List.set_cons_succ])
      refine wpHold_one (k := 6) (by kernel_rfl) rfl (fun K hK => ?_)
      (try simp only [List.getElem_toArray, List.getElem_cons_succ, List.getElem_cons_zero])
      go_simp
      refine (cmpR_all tp.val _ q ((1 : Int) : Rat) _ ((unhide HTP).below cc_2) hv_2 J (unhide HRQ) (unhide HR1) (unhide HJ)).mono ?_
      rw [unhide HCV]
      rintro e xw_3 ⟨rfl, hb_3⟩
      have cc_3 := below_step cc_2 hb_3
      have hC_3 : (fun w' : World => w'.cell? ⟨b_p, 0, none⟩ = some (.bool tp.s) ∧ w'.cell? ⟨b_p, 1, none⟩ = some (.slice tp.a1 tp.n1 tp.c1) ∧ w'.cell? ⟨b_p, 2, none⟩ = some (.slice tp.a2 tp.n2 tp.c2)) xw_3 := unhide HCC _ cc_3
      refine hK.out _ _ hC_3 ?_
      clear hK K
      (try simp only [Act.put, List.setIfInBounds_toArray, List.set_cons_zero, List.set_cons_succ])
      refine wpHold_take (i := 7) (v := ?_) rfl (by kernel_rfl) (by kernel_rfl) (by kernel_rfl) (fun _ _ _ h => h) (Or.inl ⟨by rfl, ?_⟩) hC_3 ?_
      rotate_left
      · intro w hSw; clear hSw; go_simp; (try with_reducible rfl)
      (try simp only [List.getElem_toArray, List.getElem_cons_succ, List.getElem_cons_zero])
      (try simp only [Act.put, List.setIfInBounds_toArray, List.set_cons_zero, List.set_cons_succ])
      refine wpHold_take (i := 8) (v := ?_) rfl (by kernel_rfl) (by kernel_rfl) (by kernel_rfl) (fun _ _ _ h => h) (Or.inl ⟨by rfl, ?_⟩) hC_3 ?_
      rotate_left
      · intro w hSw; clear hSw; go_simp; (try with_reducible rfl)
      (try simp only [List.getElem_toArray, List.getElem_cons_succ, List.getElem_cons_zero])
      (try simp only [Act.put, List.setIfInBounds_toArray, List.set_cons_zero, List.set_cons_succ])
      refine wpHold_take (i := 9) (v := ?_) rfl (by kernel_rfl) (by kernel_rfl) (by kernel_rfl) (fun _ _ _ h => h) (Or.inl ⟨by rfl, ?_⟩) hC_3 ?_
      rotate_left
      · intro w hSw; clear hSw; go_simp; (try with_reducible rfl)
      (try simp only [List.getElem_toArray, List.getElem_cons_succ, List.getElem_cons_zero])
      (try simp only [Act.put, List.setIfInBounds_toArray, List.set_cons_zero, List.set_cons_succ])
      refine wpHold_done (by kernel_rfl) ?_ _
      have HFB := hide (unhide HBW _ cc_3)
      go_wp2
      go_ret
      exact ⟨rfl, unhide HFB⟩
    · have hb : icB q = false := decide_eq_false (fun h => hle h.2)
      obtain ⟨z, hz⟩ : ∃ z, cmpv q ((1 : Int) : Rat) = z := ⟨_, rfl⟩
      have HCV := hide hz
      have hz0 : z = 1 := by rw [← hz, e1]; exact cmpv_gt (Rat.not_le.1 hle)
      have hz1 : ¬ z ≤ 0 := by omega
      have hz2 : decide (z ≤ 0) = false := decide_eq_false hz1
      rw [hb]
      clear hp0 hp rq h1 hJ hneg hb hy hz h0 hle hz0
      go_enter Tryd.func56, Tryd.ntmps56
      go_wp2_with fail
      clear hW_1 hb_p
      refine wp_region_hold (fun w' : World => w'.cell? ⟨b_p, 0, none⟩ = some (.bool tp.s) ∧ w'.cell? ⟨b_p, 1, none⟩ = some (.slice tp.a1 tp.n1 tp.c1) ∧ w'.cell? ⟨b_p, 2, none⟩ = some (.slice tp.a2 tp.n2 tp.c2)) (by kernel_rfl) ?_
      have bd0 : Below W_1.heap.size W_1 W_1.drew := (Below.refl _ _).drew
      have hC0 : (fun w' : World => w'.cell? ⟨b_p, 0, none⟩ = some (.bool tp.s) ∧ w'.cell? ⟨b_p, 1, none⟩ = some (.slice tp.a1 tp.n1 tp.c1) ∧ w'.cell? ⟨b_p, 2, none⟩ = some (.slice tp.a2 tp.n2 tp.c2)) W_1.drew := unhide HCC _ bd0
      refine wpHold_take (i := 0) (v := ?_) rfl (by kernel_rfl) (by kernel_rfl) (by kernel_rfl) (fun _ _ _ h => h) (Or.inl ⟨by rfl, ?_⟩) hC0 ?_
      rotate_left
      · intro w hSw; (try dsimp only at hSw); obtain ⟨u0, u1, u2⟩ := hSw; go_simp; (try with_reducible rfl)
      (try simp only [List.getElem_toArray, List.getElem_cons_succ, List.getElem_cons_zero])
      (try simp only [Act.put, List.setIfInBounds_toArray, List.set_cons_zero, List.set_cons_succ])
      refine wpHold_one (k := 1) (by kernel_rfl) rfl (fun K hK => ?_)
      (try simp only [List.getElem_toArray, List.getElem_cons_succ, List.getElem_cons_zero])
      go_simp
      refine (unhide HSG _ bd0).mono ?_
      rintro e xw_1 ⟨rfl, hb_1⟩
      have cc_1 := below_step bd0 hb_1
      have hC_1 : (fun w' : World => w'.cell? ⟨b_p, 0, none⟩ = some (.bool tp.s) ∧ w'.cell? ⟨b_p, 1, none⟩ = some (.slice tp.a1 tp.n1 tp.c1) ∧ w'.cell? ⟨b_p, 2, none⟩ = some (.slice tp.a2 tp.n2 tp.c2)) xw_1 := unhide HCC _ cc_1
      refine hK.out _ _ hC_1 ?_
      clear hK K
      (try simp only [Act.put, List.setIfInBounds_toArray, List.set_cons_zero, List.set_cons_succ])
      refine wpHold_take (i := 2) (v := ?_) rfl (by kernel_rfl) (by kernel_rfl) (by kernel_rfl) (fun _ _ _ h => h) (Or.inl ⟨by rfl, ?_⟩) hC_1 ?_
      rotate_left
      · intro w hSw; clear hSw; go_simp; (try with_reducible rfl)
      (try simp only [List.getElem_toArray, List.getElem_cons_succ, List.getElem_cons_zero])
      (try simp only [Act.put, List.setIfInBounds_toArray, List.set_cons_zero, List.set_cons_succ])
      refine wpHold_take (i := 3) (v := ?_) rfl (by kernel_rfl) (by kernel_rfl) (by kernel_rfl) (fun _ _ _ h => h) (Or.inl ⟨by rfl, ?_⟩) hC_1 ?_
      rotate_left
      · intro w hSw; clear hSw; go_simp; (try with_reducible rfl)
      (try simp only [List.getElem_toArray, List.getElem_cons_succ, List.getElem_cons_zero])
      (try simp only [Act.put, List.setIfInBounds_toArray, List.set_cons_zero, List.set_cons_succ])
      refine wpHold_take (i := 4) (v := ?_) rfl (by kernel_rfl) (by kernel_rfl) (by kernel_rfl) (fun _ _ _ h => h) (Or.inl ⟨by rfl, ?_⟩) hC_1 ?_
      rotate_left
      · intro w hSw; (try dsimp only at hSw); obtain ⟨u0, u1, u2⟩ := hSw; go_simp; (try with_reducible rfl)
      (try simp only [List.getElem_toArray, List.getElem_cons_succ, List.getElem_cons_zero])
      (try simp only [Act.put, List.setIfInBounds_toArray, List.set_cons_zero, List.set_cons_succ])
      refine wpHold_one (k := 5) (by kernel_rfl) rfl (fun K hK => ?_)
      (try simp only [List.getElem_toArray, List.getElem_cons_succ, List.getElem_cons_zero])
      go_simp
      refine (whole_any 1 (by decide) (by decide) _).mono ?_
      rintro e xw_2 ⟨xv_2, rfl, hv_2, hb_2⟩
      have cc_2 := below_step cc_1 hb_2
      have hC_2 : (fun w' : World => w'.cell? ⟨b_p, 0, none⟩ = some (.bool tp.s) ∧ w'.cell? ⟨b_p, 1, none⟩ = some (.slice tp.a1 tp.n1 tp.c1) ∧ w'.cell? ⟨b_p, 2, none⟩ = some (.slice tp.a2 tp.n2 tp.c2)) xw_2 := unhide HCC _ cc_2
      refine hK.out _ _ hC_2 ?_
      clear hK K
      (try simp only [Act.put, List.setIfInBounds_toArray, List.set_cons_zero, List.set_cons_succ])
      refine wpHold_one (k := 6) (by kernel_rfl) rfl (fun K hK => ?_)
      (try simp only [List.getElem_toArray, List.getElem_cons_succ, List.getElem_cons_zero])
      go_simp
      refine (cmpR_all tp.val _ q ((1 : Int) : Rat) _ ((unhide HTP).below cc_2) hv_2 J (unhide HRQ) (unhide HR1) (unhide HJ)).mono ?_
      rw [unhide HCV]
      rintro e xw_3 ⟨rfl, hb_3⟩
      have cc_3 := below_step cc_2 hb_3
      have hC_3 : (fun w' : World => w'.cell? ⟨b_p, 0, none⟩ = some (.bool tp.s) ∧ w'.cell? ⟨b_p, 1, none⟩ = some (.slice tp.a1 tp.n1 tp.c1) ∧ w'.cell? ⟨b_p, 2, none⟩ = some (.slice tp.a2 tp.n2 tp.c2)) xw_3 := unhide HCC _ cc_3
      refine hK.out _ _ hC_3 ?_
      clear hK K
      (try simp only [Act.put, List.setIfInBounds_toArray, List.set_cons_zero, List.set_cons_succ])
      refine wpHold_take (i := 7) (v := ?_) rfl (by kernel_rfl) (by kernel_rfl) (by kernel_rfl) (fun _ _ _ h => h) (Or.inl ⟨by rfl, ?_⟩) hC_3 ?_
      rotate_left
      · intro w hSw; clear hSw; go_simp; (try with_reducible rfl)
      (try simp only [List.getElem_toArray, List.getElem_cons_succ, List.getElem_cons_zero])
      (try simp only [Act.put, List.setIfInBounds_toArray, List.set_cons_zero, List.set_cons_succ])
      refine wpHold_take (i := 8) (v := ?_) rfl (by kernel_rfl) (by kernel_rfl) (by kernel_rfl) (fun _ _ _ h => h) (Or.inl ⟨by rfl, ?_⟩) hC_3 ?_
      rotate_left
      · intro w hSw; clear hSw; go_simp; (try with_reducible rfl)
      (try simp only [List.getElem_toArray, List.getElem_cons_succ, List.getElem_cons_zero])
      (try simp only [Act.put, List.setIfInBounds_toArray, List.set_cons_zero, List.set_cons_succ])
      refine wpHold_take (i := 9) (v := ?_) rfl (by kernel_rfl) (by kernel_rfl) (by kernel_rfl) (fun _ _ _ h => h) (Or.inl ⟨by rfl, ?_⟩) hC_3 ?_
      rotate_left
      · intro w hSw; clear hSw; go_simp; (try with_reducible rfl)
      (try simp only [List.getElem_toArray, List.getElem_cons_succ, List.getElem_cons_zero])
      (try simp only [Act.put, List.setIfInBounds_toArray, List.set_cons_zero, List.set_cons_succ])
      refine wpHold_done (by kernel_rfl) ?_ _
      have HFB := hide (unhide HBW _ cc_3)
      go_wp2
      go_ret
      exact ⟨rfl, unhide HFB⟩

/-- What checkChances says. -/
def ccd (x : Nat → Rat) (i : Nat) : Int := if icB (x i) = true then 0 else 1
def ccode (g : Rsk.Gs) (N : Nat) (qs : List Rat) : Int := if gcode (qs.length : Int) g N = 0 then mfst (ccd (xq qs)) qs.length else gcode (qs.length : Int) g N
theorem ccode_zero {g : Rsk.Gs} {N : Nat} {qs : List Rat} (h : ccode g N qs = 0) : GoodG qs.length g N ∧ ∀ j, j < qs.length → 0 ≤ xq qs j ∧ xq qs j ≤ 1 := by
  unfold ccode at h
  by_cases c : gcode (qs.length : Int) g N = 0
  · rw [if_pos c] at h
    refine ⟨goodG_of c, fun j hj => ?_⟩
    have r := mfst_zero h j hj
    unfold ccd at r
    by_cases b : icB (xq qs j) = true
    · exact of_decide_eq_true b
    · rw [if_neg b] at r; exact absurd r (by decide)
  · rw [if_neg c] at h; exact absurd h c
set_option maxHeartbeats 16000000 in
set_option maxRecDepth 100000 in
set_option linter.unusedSimpArgs false in
theorem gchances_any (a : Option Addr) (N c : Nat) (g : Rsk.Gs) (H : Nat → Option Addr × Nat) (v : Value) (qs : List Rat) (J : Nat) (w : World) (h : GRow w a N c g H) (hl : LawIs w v qs) (hq : ∀ j, j < qs.length → RS qs[j]! J) (h1 : 1 ≤ J) (hJ : J ≤ KK) :
    Calls Tryd.prog 36 #[.slice a N c, v] w fun e w' => e = .returned (errV (ccode g N qs)) ∧ Below w.heap.size w w' := by
  have HC := hide (gcheck_any (qs.length : Int) a N c g H w h)
  have hh1 := h.1
  have hh2 := h.2.1
  obtain ⟨ap, cp, rfl, -⟩ := id hl
  obtain ⟨-, p2, p3, p4⟩ := hl.parts
  have H4 := hide p4
  have HQ := hide hq
  have H1 := hide h1
  have HJ := hide hJ
  have HCD : Hid (ccode g N qs = if gcode (qs.length : Int) g N = 0 then mfst (ccd (xq qs)) qs.length else gcode (qs.length : Int) g N) := rfl
  obtain ⟨cc, hcc⟩ : ∃ k, ccode g N qs = k := ⟨_, rfl⟩
  rw [hcc] at HCD ⊢
  have HRX : Hid (∀ j, j < qs.length → RS (xq qs j) J) := hq
  obtain ⟨x, hx⟩ : ∃ x, xq qs = x := ⟨_, rfl⟩
  rw [hx] at H4 HCD HRX
  obtain ⟨n, hn⟩ : ∃ n, qs.length = n := ⟨_, rfl⟩
  rw [hn] at HC H4 HCD HRX p2 ⊢
  obtain ⟨k, hk⟩ : ∃ k, gcode (n : Int) g N = k := ⟨_, rfl⟩
  rw [hk] at HC HCD
  clear h hl hq h1 hJ hcc hx hn hk p4 HQ
  by_cases k0 : k = 0
  · subst k0
    rw [errV_zero] at HC
    have HCC : Hid (cc = mfst (ccd x) n) := by have := unhide HCD; rw [if_pos rfl] at this; exact this
    clear HCD
    go_enter Tryd.func36, Tryd.ntmps36
    go_wp2_with fail
    refine (unhide HC).mono ?_
    rintro e w1 ⟨rfl, hb1⟩
    have HB1 := hide hb1
    clear hb1 HC
    go_wp2_with fail
    go_loopw [17] (fun vi wr => ∃ i : Nat, vi = .int .i64 (i : Int) ∧ i ≤ n ∧ mfst (ccd x) i = 0 ∧ Below w.heap.size w wr) (fun vi _ => n - (intOf vi).toNat)
    case atStart => exact ⟨0, rfl, Nat.zero_le _, rfl, unhide HB1⟩
    case round =>
      obtain ⟨i, rfl, hi, hz, hbr⟩ := hrel
      clear HB1
      have HZ := hide hz
      have HBR := hide hbr
      by_cases hlt : i < n
      · have j1 : (i : Int) < (n : Int) := by omega
        have j0 : (0 : Int) ≤ (i : Int) := by omega
        obtain ⟨b, o, rfl, hbl, hc⟩ := unhide H4 (by omega)
        obtain ⟨t, k0, k1, k2, r⟩ := hc i hlt
        rw [← hbr.cell (p := ⟨b, o + i * 3, none⟩) hbl] at k0
        rw [← hbr.cell (p := ⟨b, o + i * 3 + 1, none⟩) hbl] at k1
        rw [← hbr.cell (p := ⟨b, o + i * 3 + 2, none⟩) hbl] at k2
        have bT := alloc_below wr (.cells #[.bool t.s, .slice t.a1 t.n1 t.c1, .slice t.a2 t.n2 t.c2] 31)
        have XT := BoxIs.new (r.below hbr)
        obtain ⟨WT, hWT⟩ : ∃ W, wr.alloc (.cells #[.bool t.s, .slice t.a1 t.n1 t.c1, .slice t.a2 t.n2 t.c2] 31) = W := ⟨_, rfl⟩
        obtain ⟨bt, hbt⟩ : ∃ b, wr.heap.size = b := ⟨_, rfl⟩
        rw [hWT] at bT XT
        rw [hbt] at XT
        have ⟨c0, c1, c2⟩ := XT.cells _ (Below.refl _ _)
        have HIC := hide (ichance_any t.val (x i) J WT XT.2 (unhide HRX i hlt) (unhide H1) (unhide HJ))
        have HBT := hide (below_step hbr bT)
        have HLT := hide hlt
        have HCE : Hid (ccd x i = if icB (x i) = true then 0 else 1) := rfl
        obtain ⟨B, hB⟩ : ∃ B, icB (x i) = B := ⟨_, rfl⟩
        rw [hB] at HIC HCE
        simp only [Tri.val] at HIC
        clear hbr hz hlt hc bT XT r hB
        cases B with
        | true =>
          have HF : Hid (mfst (ccd x) (i + 1) = 0) := mfst_next (unhide HZ) (by rw [unhide HCE, if_pos rfl])
          clear HCE
          go_wp2_with fail
          clear hWT hbt
          refine (unhide HIC).mono ?_
          rintro e w2 ⟨rfl, hb2⟩
          have HB2 := hide (below_step (unhide HBT) hb2)
          clear hb2 HIC k0 k1 k2 c0 c1 c2
          go_wp2
          exact ⟨⟨i + 1, by go_num, unhide HLT, unhide HF, unhide HB2⟩, by have := unhide HLT; simp [intOf]; omega⟩
        | false =>
          have HF : Hid (cc = 1) := by
            have e : ccd x i = 1 := by rw [unhide HCE, if_neg (by decide)]
            have := mfst_at (g := ccd x) (unhide HLT) (unhide HZ) (by rw [e]; decide)
            rw [e] at this
            exact (unhide HCC).trans this
          clear HCE
          go_wp2_with fail
          clear hWT hbt
          refine (unhide HIC).mono ?_
          rintro e w2 ⟨rfl, hb2⟩
          have HB2 := hide (below_step (unhide HBT) hb2)
          clear hb2 HIC k0 k1 k2 c0 c1 c2
          go_wp2
          go_ret
          exact ⟨by rw [unhide HF]; rfl, unhide HB2⟩
      · obtain rfl : i = n := by omega
        have j1 : ¬ (i : Int) < (i : Int) := by omega
        have HF : Hid (cc = 0) := (unhide HCC).trans hz
        clear hbr hz
        go_wp2
        go_ret
        exact ⟨by rw [unhide HF]; rfl, unhide HBR⟩
  · have HCC : Hid (cc = k) := by have := unhide HCD; rw [if_neg k0] at this; exact this
    rw [errV_not k0] at HC
    rw [unhide HCC, errV_not k0]
    clear HCD k0 HCC
    go_enter Tryd.func36, Tryd.ntmps36
    go_wp2_with fail
    refine (unhide HC).mono ?_
    rintro e w1 ⟨rfl, hb1⟩
    have HB1 := hide hb1
    clear hb1 HC
    go_wp2
    go_ret
    exact ⟨rfl, unhide HB1⟩

set_option maxHeartbeats 16000000 in
set_option maxRecDepth 100000 in
set_option linter.unusedSimpArgs false in
theorem rChance_err (a : Option Addr) (N c : Nat) (g : Rsk.Gs) (H : Nat → Option Addr × Nat) (v : Value) (qs : List Rat) (J : Nat) (k : Int) (w : World) (h : GRow w a N c g H) (hl : LawIs w v qs) (hq : ∀ j, j < qs.length → RS qs[j]! J) (h1 : 1 ≤ J) (hJ : J ≤ KK) (hk : ccode g N qs = k) (hk0 : k ≠ 0) :
    Calls Tryd.prog 12 #[.slice a N c, v] w fun e w' => e = .returned (.tuple #[.agg #[.bool false, .slice none 0 0, .slice none 0 0], .iface 92 (.int .i64 k)]) ∧ Below w.heap.size w w' := by
  have bb_1 := alloc_below w (.cells #[.bool false, .slice none 0 0, .slice none 0 0] 31)
  have X_1 := BoxIs.new (w := w) (t := zTri) (q := 0) (rat_zero _)
  obtain ⟨W_1, hW_1⟩ : ∃ W, w.alloc (.cells #[.bool false, .slice none 0 0, .slice none 0 0] 31) = W := ⟨_, rfl⟩
  obtain ⟨b_R, hb_R⟩ : ∃ b, w.heap.size = b := ⟨_, rfl⟩
  have X_1_ : BoxIs W_1 b_R zTri 0 := by rw [← hW_1, ← hb_R]; exact X_1
  rw [hW_1] at bb_1
  have tb_1 := bb_1
  have hg_R : w.heap.size ≤ b_R := by rw [← hb_R]; exact Nat.le_refl _
  have HG_R := hide hg_R
  have HX_R := hide (fun W (hW : Below W_1.heap.size W_1 W) => X_1_.keep hW)
  have HBW := hide (fun W (hW : Below W_1.heap.size W_1 W) => below_step tb_1 hW)
  have HB0 := hide tb_1
  clear bb_1 X_1 X_1_ tb_1 hg_R
  have HC := hide (gchances_any a N c g H v qs J W_1 (h.below (unhide HB0)) (hl.below (unhide HB0)) hq h1 hJ)
  rw [hk, errV_not hk0] at HC
  have hh1 := h.1
  have hh2 := h.2.1
  obtain ⟨ap, cp, rfl, p2, p3, -⟩ := id hl
  clear h hl hq h1 hJ hk hk0
  generalize qs.length = n at *
  go_enter Tryd.func12, Tryd.ntmps12
  go_wp2_with fail
  clear hW_1 hb_R
  refine (unhide HC).mono ?_
  rintro e w1 ⟨rfl, hb1⟩
  have X2 := unhide HX_R _ hb1
  have ⟨g0, g1, g2, f0, f1, f2⟩ := box_cell X2.1
  have BEL := hide ((((unhide HBW _ hb1).setCell (p := ⟨b_R, 0, none⟩) (unhide HG_R) (.bool false)).setCell (p := ⟨b_R, 1, none⟩) (unhide HG_R) (.slice none 0 0)).setCell (p := ⟨b_R, 2, none⟩) (unhide HG_R) (.slice none 0 0))
  clear X2 hb1 HC
  go_wp2
  exact bodyPost_ret (v := .tuple #[.agg #[.bool false, .slice none 0 0, .slice none 0 0], .iface 92 (.int .i64 k)]) (by simp [results, Tryd.results12, go_sem, g0, g1, g2]) rfl ⟨rfl, unhide BEL⟩

set_option maxHeartbeats 16000000 in
set_option maxRecDepth 100000 in
set_option linter.unusedSimpArgs false in
theorem rChance_ok (a : Option Addr) (N c : Nat) (g : Rsk.Gs) (H : Nat → Option Addr × Nat) (v : Value) (qs : List Rat) (J JB : Nat) (w : World) (h : GRow w a N c g H) (hl : LawIs w v qs) (hq : ∀ j, j < qs.length → RS qs[j]! J) (h1 : 1 ≤ J) (hk : ccode g N qs = 0) (hJB : szj J qs.length + J + 8 ≤ JB) (hJ : JB + JB + 1 ≤ KK) :
    Calls Tryd.prog 12 #[.slice a N c, v] w fun e w' => ∃ u, e = .returned (.tuple #[u, .nilIface]) ∧ RatIs w' u (Rsk.lk (xq qs) qs.length (Rsk.wf g N)) ∧ Below w.heap.size w w' := by
  have bb_1 := alloc_below w (.cells #[.bool false, .slice none 0 0, .slice none 0 0] 31)
  have X_1 := BoxIs.new (w := w) (t := zTri) (q := 0) (rat_zero _)
  obtain ⟨W_1, hW_1⟩ : ∃ W, w.alloc (.cells #[.bool false, .slice none 0 0, .slice none 0 0] 31) = W := ⟨_, rfl⟩
  obtain ⟨b_R, hb_R⟩ : ∃ b, w.heap.size = b := ⟨_, rfl⟩
  have X_1_ : BoxIs W_1 b_R zTri 0 := by rw [← hW_1, ← hb_R]; exact X_1
  rw [hW_1] at bb_1
  have tb_1 := bb_1
  have hg_R : w.heap.size ≤ b_R := by rw [← hb_R]; exact Nat.le_refl _
  have HG_R := hide hg_R
  have HX_R := hide (fun W (hW : Below W_1.heap.size W_1 W) => X_1_.keep hW)
  have HBW := hide (fun W (hW : Below W_1.heap.size W_1 W) => below_step tb_1 hW)
  have HB0 := hide tb_1
  clear bb_1 X_1 X_1_ tb_1 hg_R
  have hG := (ccode_zero hk).1
  have HC := hide (gchances_any a N c g H v qs J W_1 (h.below (unhide HB0)) (hl.below (unhide HB0)) hq h1 (by omega))
  rw [hk, errV_zero] at HC
  have HLI : Hid (∀ W, Below W_1.heap.size W_1 W → Calls Tryd.prog 37 #[.slice a N c, v] W fun e w' => ∃ u, e = .returned u ∧ RatIs w' u (Rsk.lk (xq qs) qs.length (Rsk.wf g N)) ∧ Below W.heap.size W w') := fun W hW => likely_any a N c qs.length g H v qs qs.length J JB W (h.below (unhide HBW _ hW)) hG (hl.below (unhide HBW _ hW)) rfl hG.p1 hG.p2 hq hJB hJ
  have hh1 := h.1
  have hh2 := h.2.1
  obtain ⟨T, hT⟩ : ∃ T, Rsk.lk (xq qs) qs.length (Rsk.wf g N) = T := ⟨_, rfl⟩
  rw [hT] at HLI ⊢
  obtain ⟨ap, cp, rfl, p2, p3, -⟩ := id hl
  clear h hl hq h1 hJ hk hJB hG hT
  generalize qs.length = n at *
  go_enter Tryd.func12, Tryd.ntmps12
  go_wp2_with fail
  clear hW_1 hb_R
  refine (unhide HC).mono ?_
  rintro e w1 ⟨rfl, hb1⟩
  have HL1 := hide (unhide HLI w1 hb1)
  have HB1 := hide hb1
  clear hb1 HC HLI
  go_wp2_with fail
  refine (unhide HL1).mono ?_
  rintro e w2 ⟨v2, rfl, hv2, hb2⟩
  obtain ⟨t2, rfl, r2⟩ := tri_of hv2
  simp only [Tri.val]
  have Y := unhide HX_R _ (below_step (unhide HB1) hb2)
  have ⟨l0, l1, l2⟩ := Y.free
  have ⟨y0, y1, y2⟩ := Y.cells _ (Below.refl _ _)
  have FIN := Y.set r2
  have FB := (((unhide HBW _ (below_step (unhide HB1) hb2)).setCell (p := ⟨b_R, 0, none⟩) (unhide HG_R) (.bool t2.s)).setCell (p := ⟨b_R, 1, none⟩) (unhide HG_R) (.slice t2.a1 t2.n1 t2.c1)).setCell (p := ⟨b_R, 2, none⟩) (unhide HG_R) (.slice t2.a2 t2.n2 t2.c2)
  obtain ⟨Wf, hWf⟩ : ∃ W, ((w2.setCell ⟨b_R, 0, none⟩ (.bool t2.s)).setCell ⟨b_R, 1, none⟩ (.slice t2.a1 t2.n1 t2.c1)).setCell ⟨b_R, 2, none⟩ (.slice t2.a2 t2.n2 t2.c2) = W := ⟨_, rfl⟩
  rw [hWf] at FIN FB
  have HFIN := hide FIN
  have HFB := hide FB
  clear Y FIN FB
  have ⟨x0, x1, x2⟩ := (unhide HFIN).cells _ (Below.refl _ _)
  clear hv2 r2 hb2 HL1
  go_wp2
  (try simp only [Exit.inBlock, Exit.then])
  exact bodyPost_ret (v := .tuple #[.agg #[.bool t2.s, .slice t2.a1 t2.n1 t2.c1, .slice t2.a2 t2.n2 t2.c2], .nilIface]) (by simp [results, Tryd.results12, go_sem, x0, x1, x2]) rfl ⟨_, rfl, (unhide HFIN).2, unhide HFB⟩

end Go.Proofs.YtpopcfclpemlaaaDoor
