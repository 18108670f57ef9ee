/- Hidden states: following, seen. -/
import Derived.Test.YtfnbjenneodcdaaGreatDoorBL20
namespace Go.Proofs.YtfnbjenneodcdaaGreatDoor
open Go.RowKit Go.Sort Go.Shelf

theorem row_setq {f g : Nat → Rat} {n j : Nat} {v : Rat} (hj : j < n) (h1 : g j = v) (h2 : ∀ i, i < n → i ≠ j → g i = f i) : (row f n).set j v = row g n := by
  refine row_eq (by rw [List.length_set, row_length]) (fun i hi => ?_)
  rw [List.getElem!_eq_getElem?_getD, List.getElem?_set]
  by_cases e : j = i
  · subst e
    rw [if_pos rfl, if_pos (by rw [row_length]; exact hj)]
    exact h1.symm
  · rw [if_neg e, ← List.getElem!_eq_getElem?_getD, row_get hi]
    exact (h2 i hi (Ne.symm e)).symm
/-- So many rows, and so many places of the next, are added up. -/
def fpt (x : Nat → Rat) (p : Nat → Nat → Rat) (k j i : Nat) : Rat := if i < j then Bth.ps (fun a => x a * p a i) (k + 1) else Bth.ps (fun a => x a * p a i) k
theorem fpt_next (x : Nat → Rat) (p : Nat → Nat → Rat) (k n : Nat) : row (fpt x p k n) n = row (fpt x p (k + 1) 0) n := row_congr (fun i hi => by
  unfold fpt
  rw [if_pos hi, if_neg (Nat.not_lt_zero _)])
theorem fpt_RS {x : Nat → Rat} {p : Nat → Nat → Rat} {n J : Nat} (hx : ∀ a, a < n → RS (x a) J) (hp : ∀ a i, a < n → i < n → RS (p a i) 1) {i : Nat} (hi : i < n) : ∀ k, k ≤ n → RS (Bth.ps (fun a => x a * p a i) k) (k * (J + 2) + 1)
  | 0, _ => RS.mono RS.zero (by omega)
  | k + 1, hk => by
    have a := fpt_RS hx hp hi k (by omega)
    have b := (hx k (by omega)).mul (hp k i (by omega) hi)
    exact (a.add b).mono (by rw [Nat.add_mul]; omega)

set_option maxHeartbeats 16000000 in
set_option maxRecDepth 100000 in
set_option linter.unusedSimpArgs false in
theorem following_any (v : Value) (l : Sl) (fs : List Rat) (P G : List (List Rat)) (xs : List Rat) (J JB : Nat) (w : World) (h : HmIs w v fs P G) (gm : GoodH fs P G) (sm : SmHm fs P G) (hx : LawIs w l.val xs) (hxl : xs.length = fs.length) (hr : ∀ i, i < fs.length → RS xs[i]! J) (hJ1 : 1 ≤ J) (hJB : 8 * (J + 2) + 1 + J + 1 ≤ JB) (hJ : JB + JB + 1 ≤ KK) :
    Calls Tryz.prog 83 #[v, .slice l.a fs.length l.c] w (RowPost w (row (Blf.fol (hm fs P G) (fun i => xs[i]!)) fs.length)) := by
  have HSM := hide sm
  have HGM := hide gm
  have hn1 := gm.n1
  have hn8 := gm.n8
  obtain ⟨sf, sp, sg, rfl, hF, hP, hG⟩ := h
  have hfn := law_len hF
  have hpn := rows_len hP
  have hgn := rows_len hG
  obtain ⟨n, hn⟩ : ∃ n, fs.length = n := ⟨_, rfl⟩
  have HN := hide hn
  rw [hn] at hfn
  rw [gm.pl, hn] at hpn
  rw [gm.gl, hn] at hgn
  have X0 := HBox.new hF hP hG
  have b0 := alloc_below w (.cells #[.slice sf.a sf.n sf.c, .slice sp.a sp.n sp.c, .slice sg.a sg.n sg.c] 53)
  obtain ⟨W0, hW0⟩ : ∃ W, w.alloc (.cells #[.slice sf.a sf.n sf.c, .slice sp.a sp.n sp.c, .slice sg.a sg.n sg.c] 53) = W := ⟨_, rfl⟩
  obtain ⟨bx, hbx⟩ : ∃ b, w.heap.size = b := ⟨_, rfl⟩
  rw [hW0] at X0 b0
  rw [hbx] at X0
  have HX0 := hide X0
  have HB0 := hide b0
  have HCH : Hid (∀ W, Below W0.heap.size W0 W → (fun w' : World => w'.cell? ⟨bx, 0, none⟩ = some (.slice sf.a n sf.c) ∧ w'.cell? ⟨bx, 1, none⟩ = some (.slice sp.a n sp.c) ∧ w'.cell? ⟨bx, 2, none⟩ = some (.slice sg.a n sg.c)) W) := fun W hW => by
    have h1 := (unhide HX0).cells W hW
    rw [hfn, hpn, hgn] at h1
    exact h1
  have HIS : Hid (∀ W, Below W0.heap.size W0 W → HmIs W (.agg #[.slice sf.a n sf.c, .slice sp.a n sp.c, .slice sg.a n sg.c]) fs P G) := fun W hW => by
    have h1 := (unhide HX0).hm.below hW
    unfold hmval at h1
    rw [hfn, hpn, hgn] at h1
    exact h1
  have ⟨c0, c1, c2⟩ := unhide HCH _ (Below.refl _ _)
  have HFN := hide hfn
  have HPN := hide hpn
  have HGN := hide hgn
  unfold hmval
  rw [hfn, hpn, hgn] at hW0 ⊢
  clear hF hP hG X0 b0 hn hfn hpn hgn
  rw [unhide HN] at hn1 hn8 hxl hr ⊢
  have hcl := hx.cap hxl
  obtain ⟨hcl1, hcl2⟩ := hcl
  have HJ := hide hJ
  obtain ⟨x, hx_⟩ : ∃ x : Nat → Rat, (fun i => xs[i]!) = x := ⟨_, rfl⟩
  have HXX : Hid (∀ i, xs[i]! = x i) := fun i => by rw [← hx_]
  obtain ⟨p, hp_⟩ : ∃ p : Nat → Nat → Rat, (fun i k => (P[i]!)[k]!) = p := ⟨_, rfl⟩
  have HPP : Hid (∀ i k, (P[i]!)[k]! = p i k) := fun i k => by rw [← hp_]
  have HXR : Hid (∀ i, i < n → RS (x i) J) := fun i hi => by rw [← unhide HXX]; exact hr i hi
  have HPR : Hid (∀ i k, i < n → k < n → RS (p i k) 1) := fun i k hi hk => by
    rw [← unhide HPP]
    exact (unhide HSM).rp i k (by rw [(unhide HGM).pl, unhide HN]; exact hi) (by rw [(unhide HGM).px i (by rw [unhide HN]; exact hi), unhide HN]; exact hk)
  have HFR : Hid (∀ k j i, k < n → i < n → RS (fpt x p k j i) JB) := fun k j i hk hi => by
    have h8 : ∀ a, a ≤ 8 → a * (J + 2) ≤ 8 * (J + 2) := fun a ha => Nat.mul_le_mul_right _ ha
    unfold fpt
    split
    · have := h8 (k + 1) (by omega)
      exact (fpt_RS (unhide HXR) (unhide HPR) hi (k + 1) (by omega)).mono (by omega)
    · have := h8 k (by omega)
      exact (fpt_RS (unhide HXR) (unhide HPR) hi k (by omega)).mono (by omega)
  have HRLA : Hid (∀ i, i < n → RS (x i) JB) := fun i hi => (unhide HXR i hi).mono (by omega)
  have HRPA : Hid (∀ i k, i < n → k < n → RS (p i k) JB) := fun i k hi hk => (unhide HPR i k hi hk).mono (by omega)
  have HRMA : Hid (∀ i k, i < n → k < n → RS (x i * p i k) JB) := fun i k hi hk => ((unhide HXR i hi).mul (unhide HPR i k hi hk)).mono (by omega)
  have HFOL : Hid (row (Blf.fol (hm fs P G) (fun i => xs[i]!)) n = row (fpt x p n 0) n) := row_congr (fun i hi => by
    unfold fpt Blf.fol
    rw [if_neg (Nat.not_lt_zero _)]
    show Bth.ps (fun j => xs[j]! * (P[j]!)[i]!) fs.length = _
    rw [unhide HN]
    exact Bth.ps_congr _ (fun j _ => by rw [unhide HXX, unhide HPP]))
  rw [unhide HFOL]
  obtain ⟨ba, oa, ea, hba, Hba⟩ : ∃ b o, l.a = some ⟨b, o, none⟩ ∧ b < W0.heap.size ∧ Hid (∀ j, j < n → ∃ t : Tri, W0.cell? ⟨b, o + j * 3, none⟩ = some (.bool t.s) ∧ W0.cell? ⟨b, o + j * 3 + 1, none⟩ = some (.slice t.a1 t.n1 t.c1) ∧ W0.cell? ⟨b, o + j * 3 + 2, none⟩ = some (.slice t.a2 t.n2 t.c2) ∧ RatIs W0 t.val xs[j]!) := (hx.below (unhide HB0)).open hxl hn1
  have HLba := hide hba
  have qm2 := make_ratios (n : Int) (by omega) (by omega) W0
  rw [Int.toNat_natCast] at qm2
  have S3 := SumsAt.start W0 W0 n (Below.refl _ _)
  obtain ⟨W1, hW1⟩ : ∃ W, W0.alloc (.cells (tcells (List.replicate n zTri)).toArray 26) = W := ⟨_, rfl⟩
  obtain ⟨GO, hGO⟩ : ∃ G, W0.heap.size = G := ⟨_, rfl⟩
  rw [hW1] at qm2 S3
  rw [hGO] at qm2
  have HS3 : Hid (SumsAt W0 W1 GO (List.replicate n zTri) (row (fpt x p 0 0) n)) := by
    have e : row (fpt x p 0 0) n = List.replicate n 0 := by
      rw [fill_zero (fun _ => 0) n]
      refine (row_eq (fill_length _ _ _) (fun i hi => ?_)).symm
      rw [fill_none (Nat.zero_le _) hi]
      unfold fpt
      rw [if_neg (Nat.not_lt_zero _)]; rfl
    show SumsAt W0 W1 GO _ _
    rw [e, ← hGO]; exact S3
  have HGO : Hid (w.heap.size ≤ GO) := by show _ ≤ GO; rw [← hGO]; exact (unhide HB0).size
  rw [ea]
  clear hx hxl hr hJ1 hJB hJ hx_ hp_ ea hba S3 sm gm
  go_enter Tryz.func83, Tryz.ntmps83
  go_wp2_with fail
  clear hW0 hbx c0 c1 c2 qm2 hW1 hGO
  go_loopw [15] (fun vk wr => ∃ (k : Nat) (ws : List Tri), vk = .int .i64 (k : Int) ∧ k ≤ n ∧ ws.length = n ∧ SumsAt W0 wr GO ws (row (fpt x p k 0) n)) (fun vk _ => n - (intOf vk).toNat)
  case atStart => exact ⟨0, _, rfl, Nat.zero_le _, List.length_replicate, unhide HS3⟩
  case round =>
    obtain ⟨k, ws, rfl, hk, hws, T3⟩ := hrel
    clear HS3
    by_cases hlt : k < n
    · have j1 : (k : Int) < (n : Int) := by omega
      have j0 : (0 : Int) ≤ (k : Int) := by omega
      have hb := T3.bl
      obtain ⟨tl, ka0, ka1, ka2, ra⟩ := unhide Hba k hlt
      rw [← hb.cell (p := ⟨ba, oa + k * 3, none⟩) (unhide HLba)] at ka0
      rw [← hb.cell (p := ⟨ba, oa + k * 3 + 1, none⟩) (unhide HLba)] at ka1
      rw [← hb.cell (p := ⟨ba, oa + k * 3 + 2, none⟩) (unhide HLba)] at ka2
      rw [unhide HXX] at ra
      have b7_ := alloc_below wr (.cells #[.bool tl.s, .slice tl.a1 tl.n1 tl.c1, .slice tl.a2 tl.n2 tl.c2] 26)
      have X7 := BoxIs.new (ra.below hb)
      obtain ⟨W7, hW7⟩ : ∃ W, wr.alloc (.cells #[.bool tl.s, .slice tl.a1 tl.n1 tl.c1, .slice tl.a2 tl.n2 tl.c2] 26) = W := ⟨_, rfl⟩
      obtain ⟨b7, hb7⟩ : ∃ g, wr.heap.size = g := ⟨_, rfl⟩
      rw [hW7] at b7_ X7
      rw [hb7] at X7
      have HB7 := hide (below_step hb b7_)
      have HX70 := hide X7
      have HT7 := hide (T3.keep b7_)
      have HNE7 : Hid (GO ≠ b7) := fun e => by
        have h1 := (Array.getElem?_eq_some_iff.1 T3.row).1
        rw [e, ← hb7] at h1
        exact absurd h1 (Nat.lt_irrefl _)
      have HWS := hide hws
      have hltP : k < P.length := by rw [(unhide HGM).pl, unhide HN]; exact hlt
      obtain ⟨bp, op, mp, hpa, hbp, p0, hPl⟩ := ((unhide HX0).2.2.1).at hltP
      have hlp : (P[k]!).length = n := by rw [(unhide HGM).px k (by rw [unhide HN]; exact hlt)]; exact unhide HN
      have hmp := law_len hPl
      rw [hlp] at hmp
      rw [hmp] at p0
      obtain ⟨bf_, of_, hfa, hbf, HCF⟩ : ∃ b o, mp.a = some ⟨b, o, none⟩ ∧ b < W0.heap.size ∧ Hid (∀ j, j < n → ∃ t : Tri, W0.cell? ⟨b, o + j * 3, none⟩ = some (.bool t.s) ∧ W0.cell? ⟨b, o + j * 3 + 1, none⟩ = some (.slice t.a1 t.n1 t.c1) ∧ W0.cell? ⟨b, o + j * 3 + 2, none⟩ = some (.slice t.a2 t.n2 t.c2) ∧ RatIs W0 t.val (P[k]!)[j]!) := hPl.open hlp hn1
      have HBF := hide hbf
      rw [hfa] at p0
      rw [← (unhide HB7).cell (p := ⟨bp, op + k, none⟩) hbp] at p0
      have ⟨d0, d1, d2⟩ := unhide HCH _ (unhide HB7)
      rw [hpa] at d1
      clear T3 hws hb b7_ X7 ra hltP hpa hbp hPl hlp hmp hfa hbf
      go_wp2_with fail
      clear hW7 hb7 ka0 ka1 ka2 d0 d1 d2 p0
      obtain ⟨V, hV⟩ : ∃ V, wr = V := ⟨_, rfl⟩
      clear hV
      go_loopw [26] (fun vj wv => ∃ (j : Nat) (ws : List Tri), vj = .int .i64 (j : Int) ∧ j ≤ n ∧ ws.length = n ∧ SumsAt W0 wv GO ws (row (fpt x p k j) n) ∧ BoxIs wv b7 tl (x k)) (fun vj _ => n - (intOf vj).toNat)
      case atStart => exact ⟨0, _, rfl, Nat.zero_le _, unhide HWS, unhide HT7, unhide HX70⟩
      case round =>
        obtain ⟨j, us, rfl, hj, hus, T4, X4⟩ := hrel
        clear HX70 HT7 HWS HB7
        by_cases hltj : j < n
        · have f1 : (j : Int) < (n : Int) := by omega
          have f0 : (0 : Int) ≤ (j : Int) := by omega
          have hb := T4.bl
          obtain ⟨tp, ka0, ka1, ka2, ra⟩ := unhide HCF j hltj
          rw [← hb.cell (p := ⟨bf_, of_ + j * 3, none⟩) (unhide HBF)] at ka0
          rw [← hb.cell (p := ⟨bf_, of_ + j * 3 + 1, none⟩) (unhide HBF)] at ka1
          rw [← hb.cell (p := ⟨bf_, of_ + j * 3 + 2, none⟩) (unhide HBF)] at ka2
          rw [unhide HPP] at ra
          have b9_ := alloc_below wr (.cells #[.bool tp.s, .slice tp.a1 tp.n1 tp.c1, .slice tp.a2 tp.n2 tp.c2] 26)
          have X9 := BoxIs.new (ra.below hb)
          obtain ⟨W9, hW9⟩ : ∃ W, wr.alloc (.cells #[.bool tp.s, .slice tp.a1 tp.n1 tp.c1, .slice tp.a2 tp.n2 tp.c2] 26) = W := ⟨_, rfl⟩
          obtain ⟨b9, hb9⟩ : ∃ g, wr.heap.size = g := ⟨_, rfl⟩
          rw [hW9] at b9_ X9
          rw [hb9] at X9
          have T9 := T4.keep b9_
          have HX7 := hide (X4.keep b9_)
          have HX9 := hide X9
          have ⟨q0, _, qr⟩ : (W9.cell? ⟨GO, j * 3, none⟩ = some (.bool (us[j]!).s) ∧ W9.cell? ⟨GO, j * 3 + 1, none⟩ = some (.slice (us[j]!).a1 (us[j]!).n1 (us[j]!).c1) ∧ W9.cell? ⟨GO, j * 3 + 2, none⟩ = some (.slice (us[j]!).a2 (us[j]!).n2 (us[j]!).c2)) ∧ True ∧ RatIs W9 (us[j]!).val (fpt x p k j j) := by
            have ⟨c, _⟩ := T9.cells j (by omega)
            have r := T9.rat j (by omega)
            rw [row_get hltj] at r
            exact ⟨c, trivial, r⟩
          obtain ⟨to_, hto⟩ : ∃ t, us[j]! = t := ⟨_, rfl⟩
          rw [hto] at q0 qr
          have hGl : GO < W9.heap.size := by have := T9.row; exact (Array.getElem?_eq_some_iff.1 this).1
          have HCC : Hid (∀ W, Below W9.heap.size W9 W → (fun w' : World => (w'.cell? ⟨GO, j * 3, none⟩ = some (.bool to_.s) ∧ w'.cell? ⟨GO, j * 3 + 1, none⟩ = some (.slice to_.a1 to_.n1 to_.c1) ∧ w'.cell? ⟨GO, j * 3 + 2, none⟩ = some (.slice to_.a2 to_.n2 to_.c2)) ∧ (w'.cell? ⟨b7, 0, none⟩ = some (.bool tl.s) ∧ w'.cell? ⟨b7, 1, none⟩ = some (.slice tl.a1 tl.n1 tl.c1) ∧ w'.cell? ⟨b7, 2, none⟩ = some (.slice tl.a2 tl.n2 tl.c2)) ∧ (w'.cell? ⟨b9, 0, none⟩ = some (.bool tp.s) ∧ w'.cell? ⟨b9, 1, none⟩ = some (.slice tp.a1 tp.n1 tp.c1) ∧ w'.cell? ⟨b9, 2, none⟩ = some (.slice tp.a2 tp.n2 tp.c2))) W) := fun W hW => by
            refine ⟨⟨?_, ?_, ?_⟩, (unhide HX7).cells W hW, (unhide HX9).cells W hW⟩
            · rw [hW.cell (p := ⟨GO, j * 3, none⟩) hGl]; exact q0.1
            · rw [hW.cell (p := ⟨GO, j * 3 + 1, none⟩) hGl]; exact q0.2.1
            · rw [hW.cell (p := ⟨GO, j * 3 + 2, none⟩) hGl]; exact q0.2.2
          have HTO := hide qr
          have HRL := hide (unhide HRLA k hlt)
          have HRP := hide (unhide HRPA k j hlt hltj)
          have HRM := hide (unhide HRMA k j hlt hltj)
          have HRO := hide (unhide HFR k j j hlt hltj)
          have HQV : Hid ((row (fpt x p k j) n).set j (fpt x p k j j + x k * p k j) = row (fpt x p k (j + 1)) n) := row_setq hltj (by
            unfold fpt
            rw [if_pos (Nat.lt_succ_self _), if_neg (Nat.lt_irrefl _)]; rfl) (fun i _ hi => by
            unfold fpt
            by_cases e : i < j
            · rw [if_pos e, if_pos (by omega)]
            · rw [if_neg e, if_neg (by omega)])
          have HS5 := hide T9
          have HUL := hide hus
          have hne7 : GO ≠ b7 := unhide HNE7
          clear T4 X4 hb b9_ X9 T9 ra qr hto hGl hus q0
          go_wp2_with fail
          clear hW9 hb9 ka0 ka1 ka2
          refine wp_region_till (fun w' : World => (w'.cell? ⟨GO, j * 3, none⟩ = some (.bool to_.s) ∧ w'.cell? ⟨GO, j * 3 + 1, none⟩ = some (.slice to_.a1 to_.n1 to_.c1) ∧ w'.cell? ⟨GO, j * 3 + 2, none⟩ = some (.slice to_.a2 to_.n2 to_.c2)) ∧ (w'.cell? ⟨b7, 0, none⟩ = some (.bool tl.s) ∧ w'.cell? ⟨b7, 1, none⟩ = some (.slice tl.a1 tl.n1 tl.c1) ∧ w'.cell? ⟨b7, 2, none⟩ = some (.slice tl.a2 tl.n2 tl.c2)) ∧ (w'.cell? ⟨b9, 0, none⟩ = some (.bool tp.s) ∧ w'.cell? ⟨b9, 1, none⟩ = some (.slice tp.a1 tp.n1 tp.c1) ∧ w'.cell? ⟨b9, 2, none⟩ = some (.slice tp.a2 tp.n2 tp.c2))) 11 (by kernel_rfl) ?_
          have bd0 : Below W9.heap.size W9 W9.drew := (Below.refl _ _).drew
          have hC0 : (fun w' : World => (w'.cell? ⟨GO, j * 3, none⟩ = some (.bool to_.s) ∧ w'.cell? ⟨GO, j * 3 + 1, none⟩ = some (.slice to_.a1 to_.n1 to_.c1) ∧ w'.cell? ⟨GO, j * 3 + 2, none⟩ = some (.slice to_.a2 to_.n2 to_.c2)) ∧ (w'.cell? ⟨b7, 0, none⟩ = some (.bool tl.s) ∧ w'.cell? ⟨b7, 1, none⟩ = some (.slice tl.a1 tl.n1 tl.c1) ∧ w'.cell? ⟨b7, 2, none⟩ = some (.slice tl.a2 tl.n2 tl.c2)) ∧ (w'.cell? ⟨b9, 0, none⟩ = some (.bool tp.s) ∧ w'.cell? ⟨b9, 1, none⟩ = some (.slice tp.a1 tp.n1 tp.c1) ∧ w'.cell? ⟨b9, 2, none⟩ = some (.slice tp.a2 tp.n2 tp.c2))) W9.drew := unhide HCC _ bd0
          refine wpTill_pure (i := 0) (v := ?_) rfl (by kernel_rfl) (by kernel_rfl) (by kernel_rfl) (by kernel_rfl) (fun _ _ _ h => h) (Or.inl ⟨by rfl, ?_⟩) (fun _ => hC0) ?_
          rotate_left
          · intro w hSw; clear hSw; go_simp; (try with_reducible rfl)
          (try simp only [List.getElem_toArray, List.getElem_cons_succ, List.getElem_cons_zero])
          (try simp only [Act.put, List.setIfInBounds_toArray, List.set_cons_zero, List.set_cons_succ])
          refine wpTill_pure (i := 1) (v := ?_) rfl (by kernel_rfl) (by kernel_rfl) (by kernel_rfl) (by kernel_rfl) (fun _ _ _ h => h) (Or.inl ⟨by rfl, ?_⟩) (fun _ => hC0) ?_
          rotate_left
          · intro w hSw; clear hSw; go_simp; (try with_reducible rfl)
          (try simp only [List.getElem_toArray, List.getElem_cons_succ, List.getElem_cons_zero])
          (try simp only [Act.put, List.setIfInBounds_toArray, List.set_cons_zero, List.set_cons_succ])
          refine wpTill_pure (i := 2) (v := ?_) rfl (by kernel_rfl) (by kernel_rfl) (by kernel_rfl) (by kernel_rfl) (fun _ _ _ h => h) (Or.inl ⟨by rfl, ?_⟩) (fun _ => hC0) ?_
          rotate_left
          · intro w hSw; clear hSw; go_simp; (try with_reducible rfl)
          (try simp only [List.getElem_toArray, List.getElem_cons_succ, List.getElem_cons_zero])
          (try simp only [Act.put, List.setIfInBounds_toArray, List.set_cons_zero, List.set_cons_succ])
          refine wpTill_pure (i := 3) (v := ?_) rfl (by kernel_rfl) (by kernel_rfl) (by kernel_rfl) (by kernel_rfl) (fun _ _ _ h => h) (Or.inl ⟨by rfl, ?_⟩) (fun _ => hC0) ?_
          rotate_left
          · intro w hSw; clear hSw; go_simp; (try with_reducible rfl)
          (try simp only [List.getElem_toArray, List.getElem_cons_succ, List.getElem_cons_zero])
          (try simp only [Act.put, List.setIfInBounds_toArray, List.set_cons_zero, List.set_cons_succ])
          refine wpTill_pure (i := 4) (v := ?_) rfl (by kernel_rfl) (by kernel_rfl) (by kernel_rfl) (by kernel_rfl) (fun _ _ _ h => h) (Or.inl ⟨by rfl, ?_⟩) (fun _ => hC0) ?_
          rotate_left
          · intro w hSw; clear hSw; go_simp; (try with_reducible rfl)
          (try simp only [List.getElem_toArray, List.getElem_cons_succ, List.getElem_cons_zero])
          (try simp only [Act.put, List.setIfInBounds_toArray, List.set_cons_zero, List.set_cons_succ])
          refine wpTill_take (i := 5) (v := ?_) rfl (by kernel_rfl) (by kernel_rfl) (by kernel_rfl) (by kernel_rfl) (by kernel_rfl) (by kernel_rfl) (fun _ _ _ h => h) (Or.inl ⟨by rfl, ?_⟩) hC0 ?_
          rotate_left
          · intro w hSw; (try dsimp only at hSw); obtain ⟨⟨u0, u1, u2⟩, ⟨u3, u4, u5⟩, ⟨u6, u7, u8⟩⟩ := hSw; go_simp; (try with_reducible rfl)
          (try simp only [List.getElem_toArray, List.getElem_cons_succ, List.getElem_cons_zero])
          (try simp only [Act.put, List.setIfInBounds_toArray, List.set_cons_zero, List.set_cons_succ])
          refine wpTill_take (i := 6) (v := ?_) rfl (by kernel_rfl) (by kernel_rfl) (by kernel_rfl) (by kernel_rfl) (by kernel_rfl) (by kernel_rfl) (fun _ _ _ h => h) (Or.inl ⟨by rfl, ?_⟩) hC0 ?_
          rotate_left
          · intro w hSw; (try dsimp only at hSw); obtain ⟨⟨u0, u1, u2⟩, ⟨u3, u4, u5⟩, ⟨u6, u7, u8⟩⟩ := hSw; go_simp; (try with_reducible rfl)
          (try simp only [List.getElem_toArray, List.getElem_cons_succ, List.getElem_cons_zero])
          (try simp only [Act.put, List.setIfInBounds_toArray, List.set_cons_zero, List.set_cons_succ])
          refine wpTill_take (i := 7) (v := ?_) rfl (by kernel_rfl) (by kernel_rfl) (by kernel_rfl) (by kernel_rfl) (by kernel_rfl) (by kernel_rfl) (fun _ _ _ h => h) (Or.inl ⟨by rfl, ?_⟩) hC0 ?_
          rotate_left
          · intro w hSw; (try dsimp only at hSw); obtain ⟨⟨u0, u1, u2⟩, ⟨u3, u4, u5⟩, ⟨u6, u7, u8⟩⟩ := hSw; go_simp; (try with_reducible rfl)
          (try simp only [List.getElem_toArray, List.getElem_cons_succ, List.getElem_cons_zero])
          (try simp only [Act.put, List.setIfInBounds_toArray, List.set_cons_zero, List.set_cons_succ])
          refine wpTill_one (k := 8) (by kernel_rfl) rfl (fun K hK => ?_)
          (try simp only [List.getElem_toArray, List.getElem_cons_succ, List.getElem_cons_zero])
          go_simp
          refine (mulR_any tl.val tp.val _ _ _ ((unhide HX7).2.below bd0) ((unhide HX9).2.below bd0) JB (unhide HRL) (unhide HRP) (unhide HJ)).mono ?_
          rintro e xw_1 ⟨xv_1, rfl, hv_1, hb_1⟩
          have cc_1 := below_step bd0 hb_1
          have hC_1 : (fun w' : World => (w'.cell? ⟨GO, j * 3, none⟩ = some (.bool to_.s) ∧ w'.cell? ⟨GO, j * 3 + 1, none⟩ = some (.slice to_.a1 to_.n1 to_.c1) ∧ w'.cell? ⟨GO, j * 3 + 2, none⟩ = some (.slice to_.a2 to_.n2 to_.c2)) ∧ (w'.cell? ⟨b7, 0, none⟩ = some (.bool tl.s) ∧ w'.cell? ⟨b7, 1, none⟩ = some (.slice tl.a1 tl.n1 tl.c1) ∧ w'.cell? ⟨b7, 2, none⟩ = some (.slice tl.a2 tl.n2 tl.c2)) ∧ (w'.cell? ⟨b9, 0, none⟩ = some (.bool tp.s) ∧ w'.cell? ⟨b9, 1, none⟩ = some (.slice tp.a1 tp.n1 tp.c1) ∧ w'.cell? ⟨b9, 2, none⟩ = some (.slice tp.a2 tp.n2 tp.c2))) xw_1 := unhide HCC _ cc_1
          refine hK.out _ _ (fun _ => hC_1) ?_
          clear hK K
          (try simp only [Act.put, List.setIfInBounds_toArray, List.set_cons_zero, List.set_cons_succ])
          refine wpTill_one (k := 9) (by kernel_rfl) rfl (fun K hK => ?_)
          (try simp only [List.getElem_toArray, List.getElem_cons_succ, List.getElem_cons_zero])
          go_simp
          refine (addR_any to_.val _ _ _ _ ((unhide HTO).below cc_1) hv_1 JB (unhide HRO) (unhide HRM) (unhide HJ)).mono ?_
          rintro e xw_2 ⟨xv_2, rfl, hv_2, hb_2⟩
          have cc_2 := below_step cc_1 hb_2
          have hC_2 : (fun w' : World => (w'.cell? ⟨GO, j * 3, none⟩ = some (.bool to_.s) ∧ w'.cell? ⟨GO, j * 3 + 1, none⟩ = some (.slice to_.a1 to_.n1 to_.c1) ∧ w'.cell? ⟨GO, j * 3 + 2, none⟩ = some (.slice to_.a2 to_.n2 to_.c2)) ∧ (w'.cell? ⟨b7, 0, none⟩ = some (.bool tl.s) ∧ w'.cell? ⟨b7, 1, none⟩ = some (.slice tl.a1 tl.n1 tl.c1) ∧ w'.cell? ⟨b7, 2, none⟩ = some (.slice tl.a2 tl.n2 tl.c2)) ∧ (w'.cell? ⟨b9, 0, none⟩ = some (.bool tp.s) ∧ w'.cell? ⟨b9, 1, none⟩ = some (.slice tp.a1 tp.n1 tp.c1) ∧ w'.cell? ⟨b9, 2, none⟩ = some (.slice tp.a2 tp.n2 tp.c2))) xw_2 := unhide HCC _ cc_2
          refine hK.out _ _ (fun _ => hC_2) ?_
          clear hK K
          (try simp only [Act.put, List.setIfInBounds_toArray, List.set_cons_zero, List.set_cons_succ])
          refine wpTill_pure (i := 10) (v := ?_) rfl (by kernel_rfl) (by kernel_rfl) (by kernel_rfl) (by kernel_rfl) (fun _ _ _ h => h) (Or.inl ⟨by rfl, ?_⟩) (fun _ => hC_2) ?_
          rotate_left
          · intro w hSw; clear hSw; go_simp; (try with_reducible rfl)
          (try simp only [List.getElem_toArray, List.getElem_cons_succ, List.getElem_cons_zero])
          (try simp only [Act.put, List.setIfInBounds_toArray, List.set_cons_zero, List.set_cons_succ])
          obtain ⟨t5, rfl, r5⟩ := tri_of hv_2
          simp only [Tri.val]
          have S8 := (unhide HS5).keep cc_2
          have ⟨⟨y0, y1, y2⟩, g0, g1, g2⟩ := S8.cells j (by rw [unhide HUL]; exact hltj)
          have FZ := S8.set j (by rw [unhide HUL]; exact hltj) t5 _ r5
          obtain ⟨WA, hWA⟩ : ∃ W, ((xw_2.setCell ⟨GO, j * 3, none⟩ (.bool t5.s)).setCell ⟨GO, j * 3 + 1, none⟩ (.slice t5.a1 t5.n1 t5.c1)).setCell ⟨GO, j * 3 + 2, none⟩ (.slice t5.a2 t5.n2 t5.c2) = W := ⟨_, rfl⟩
          rw [hWA, unhide HQV] at FZ
          have HFZ := hide FZ
          clear S8 FZ r5 hv_1 hv_2
          refine wpTill_one (k := 11) (by kernel_rfl) rfl (fun K hK => ?_)
          (try simp only [List.getElem_toArray, List.getElem_cons_succ, List.getElem_cons_zero])
          go_simp
          refine hK.out _ _ (fun h => absurd (h.symm.trans (by kernel_rfl)) Bool.false_ne_true) ?_
          clear hK K
          (try simp only [Act.put, List.setIfInBounds_toArray, List.set_cons_zero, List.set_cons_succ])
          refine wpTill_done (by kernel_rfl) ?_ _
          have HX7F : Hid (BoxIs WA b7 tl (x k)) := by
            have hS := (unhide HS5).keep cc_2
            show BoxIs WA b7 tl (x k)
            rw [← hWA]
            exact ((unhide HX7).keep cc_2).rowed hS.row (Ne.symm hne7) _ _ _ _ _ _
          clear HCC HTO HX7 HX9 HS5 y0 y1 y2 g0 g1 g2 hWA hC0 hC_1 hC_2 cc_1 cc_2 bd0 hb_1 hb_2 hne7
          go_wp2_with fail
          exact ⟨⟨j + 1, _, by go_num, hltj, by rw [List.length_set]; exact unhide HUL, unhide HFZ, unhide HX7F⟩, by simp [intOf]; omega⟩
        · obtain rfl : j = n := by omega
          have f1 : ¬ (j : Int) < (j : Int) := by omega
          rw [fpt_next] at T4
          have HF4 := hide T4
          have HU4 := hide hus
          clear T4 X4 hus
          go_wp2_with fail
          exact ⟨⟨k + 1, _, by go_num, hlt, unhide HU4, unhide HF4⟩, by simp [intOf]; omega⟩
    · obtain rfl : k = n := by omega
      have j1 : ¬ (k : Int) < (k : Int) := by omega
      have hlaw := T3.law (by omega)
      rw [hws] at hlaw
      have HLW := hide hlaw
      have HB := hide (below_step (unhide HB0) T3.bl)
      clear T3 hlaw hws
      go_wp2
      go_ret
      exact ⟨GO, k, rfl, (row_length _ _).symm, unhide HGO, unhide HLW, unhide HB⟩

end Go.Proofs.YtfnbjenneodcdaaGreatDoor
