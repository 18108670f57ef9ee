/- seats.Sell. -/
import Derived.Test.YtfnbjenneodcdaaDoorSE7
namespace Go.Proofs.YtfnbjenneodcdaaDoor
open Go.RowKit Go.Sort Go.Shelf

set_option maxHeartbeats 1000000 in
theorem sell1_any (x : Int) (hx : 0 ≤ x) (w : World) : Calls Tryd.prog 37 #[.int .i64 x] w fun e w' => e = .returned (.bool false) ∧ w' = w := by
  have f1 : ¬ x < 0 := by omega
  go_enter Tryd.func37, Tryd.ntmps37
  go_wp2
  go_ret
  exact ⟨by simp, rfl⟩
set_option maxHeartbeats 4000000 in
theorem idx_none (v : Value) (n : Nat) (f : Nat → Int) (w : World) (h : NRow w v n f) (hn : n ≤ 1000) (hf : ∀ j, j < n → 0 ≤ f j) :
    Calls Tryd.prog 62 #[v, .func (.func 37) #[] #[]] w fun e w' => e = .returned (.int .i64 (-1)) ∧ w' = w := by
  obtain ⟨a, c, rfl, h1, h2, h3⟩ := h
  have H3 := hide h3
  have HFF := hide hf
  clear h3 hf
  go_enter Tryd.func62, Tryd.ntmps62
  go_wp2
  go_loopw [8] (fun vi wr => ∃ m : Nat, vi = .int .i64 (m : Int) ∧ m ≤ n ∧ wr = w) (fun vi _ => n - (intOf vi).toNat)
  case atStart => exact ⟨0, rfl, Nat.zero_le _, rfl⟩
  case round =>
    obtain ⟨m, rfl, hm, rfl⟩ := hrel
    by_cases hlt : m < n
    · obtain ⟨b, o, rfl, hbl, hc⟩ := unhide H3 (by omega)
      have k0 := hc m hlt
      have hx := unhide HFF m hlt
      obtain ⟨x, hx_⟩ : ∃ x, f m = x := ⟨_, rfl⟩
      rw [hx_] at k0 hx
      have e2 : (0 : Int) ≤ (m : Int) := by omega
      have e3 : (m : Int) < (n : Int) := by omega
      have C := hide (sell1_any x hx wr)
      clear hc H3 hx_ hx
      go_wp2_with fail
      refine (unhide C).mono ?_
      rintro e_ w2 ⟨rfl, rfl⟩
      go_wp2
      exact ⟨⟨m + 1, by go_num, hlt, by first | exact rfl | trivial⟩, by simp [intOf]; omega⟩
    · obtain rfl : m = n := by omega
      have e3 : ¬ (m : Int) < (m : Int) := by omega
      go_wp2
      go_ret
      exact ⟨rfl, rfl⟩
set_option maxHeartbeats 4000000 in
theorem con_none (v : Value) (n : Nat) (f : Nat → Int) (w : World) (h : NRow w v n f) (hn : n ≤ 1000) (hf : ∀ j, j < n → 0 ≤ f j) :
    Calls Tryd.prog 36 #[v, .func (.func 37) #[] #[]] w fun e w' => e = .returned (.bool false) ∧ w' = w := by
  have C := hide (idx_none v n f w h hn hf)
  obtain ⟨a, c, rfl, h1, h2, h3⟩ := h
  clear h3 hf
  go_enter Tryd.func36, Tryd.ntmps36
  go_wp2_with fail
  refine (unhide C).mono ?_
  rintro e_ w2 ⟨rfl, rfl⟩
  go_wp2
  go_ret
  exact ⟨rfl, rfl⟩
/-- Limits: of the first class none. -/
def lim (kf : Nat → Nat) (j : Nat) : Nat := if j = 0 then 0 else kf (j - 1)
/-- What Sell tells. -/
def SellPost (w : World) (q : Rat) (e : Ending) (w' : World) : Prop := ∃ t : Tri, e = .returned (.tuple #[t.val, .nilIface]) ∧ RatIs w' t.val q ∧ Below w.heap.size w w'
theorem se_one (p : Nat → Rat) (a : Nat → Nat → Rat) (K : Nat → Nat) (kf : Nat → Nat) : Sea.sd (p 0) (a 0) (K 0) (fun _ => 0) 0 = Sea.se p a K (lim kf) 1 := rfl

set_option maxHeartbeats 16000000 in
set_option maxRecDepth 100000 in
set_option linter.unusedSimpArgs false in
theorem sell_any (v vk : Value) (ks : List (Int × List Rat)) (s : Nat) (kf : Nat → Nat) (w : World) (h : FaresAre w v ks) (sm : SmF ks) (hz : fcode ks = 0) (hs : s ≤ 60) (hk : NRow w vk (ks.length - 1) (fun j => ((kf j : Nat) : Int))) (hkb : ∀ j, j < ks.length - 1 → kf j ≤ 1000) :
    Calls Tryd.prog 12 #[v, .int .i64 (s : Int), vk] w (SellPost w (Sea.se (pF ks) (aF ks) (kF ks) (lim kf) ks.length s)) := by
  have b0 := alloc_below w (.cells #[.bool false, .slice none 0 0, .slice none 0 0] 39)
  have X0 := BoxIs.new (w := w) (t := zTri) (q := 0) (rat_zero _)
  obtain ⟨W0, hW0⟩ : ∃ W, w.alloc (.cells #[.bool false, .slice none 0 0, .slice none 0 0] 39) = W := ⟨_, rfl⟩
  obtain ⟨R, hR⟩ : ∃ R, w.heap.size = R := ⟨_, rfl⟩
  have X0' : BoxIs W0 R zTri 0 := by rw [← hW0, ← hR]; exact X0
  rw [hW0] at b0
  have HX : Hid (∀ W, Below W0.heap.size W0 W → BoxIs W R zTri 0) := fun W hW => X0'.keep hW
  have HBW : Hid (∀ W, Below W0.heap.size W0 W → Below w.heap.size w W) := fun W hW => below_step b0 hW
  have HG : Hid (w.heap.size ≤ R) := by show _ ≤ R; rw [hR]; exact Nat.le_refl _
  have HCH := hide (fseats_any v ks s W0 (h.below b0) sm hs)
  have HGF := hide (goodF_of hz)
  obtain ⟨a, c, rfl, h1, h2, h3⟩ := id (h.below b0)
  have hf0 := h.below b0
  have hk0 := hk.below b0
  clear h3 h hk X0 X0' b0
  obtain ⟨n, hn⟩ : ∃ n, ks.length = n := ⟨_, rfl⟩
  have HN := hide hn
  have hn1 : 1 ≤ n := by rw [← hn]; exact (unhide HGF).n1
  have hn4 : n ≤ 4 := by rw [← hn]; exact sm.n
  rw [hn] at hf0 hk0 hkb h1 HCH ⊢
  rw [hz] at HCH
  have HF := hide hf0
  have HSM := hide sm
  obtain ⟨m, hm⟩ : ∃ m, n - 1 = m := ⟨_, rfl⟩
  rw [hm] at hk0 hkb
  have hwn : IntKind.i64.wrap ((n : Int) - 1) = (m : Int) := by rw [IntKind.wrap_i64]; omega
  have HMM : Hid (m + 1 = n) := by show _ = _; omega
  have hmn : m < n := by omega
  have HKN := hide hk0
  have HKB := hide hkb
  have HCN := hide (fun W (hW : Below W0.heap.size W0 W) => con_none vk m (fun j => ((kf j : Nat) : Int)) W (hk0.below hW) (by omega) (fun j _ => by omega))
  obtain ⟨ka, kc, rfl, hk1, hk2, hk3⟩ := id hk0
  obtain ⟨M, hM⟩ : ∃ M, s + 1 = M := ⟨_, rfl⟩
  have hwM : IntKind.i64.wrap ((s : Int) + 1) = (M : Int) := by rw [IntKind.wrap_i64]; omega
  have HM1 : Hid (1 ≤ M ∧ M ≤ 100 ∧ M - 1 = s) := by show _ ∧ _ ∧ _; omega
  have HRV : Hid (∀ i, i ≤ n → ∀ j, j < M → RS (Sea.se (pF ks) (aF ks) (kF ks) (lim kf) i j) (wz i)) := fun i hi j hj => se_RS (unhide HSM) (unhide HGF) (lim kf) s i (by rw [unhide HN]; exact hi) j (by have := unhide HM1; omega)
  have HWZ : Hid (∀ i, i ≤ n → 1 ≤ wz i ∧ wz i ≤ 1000000) := fun i hi => ⟨by cases i with
    | zero => exact Nat.le_refl _
    | succ i => unfold wz; omega, by have := wz_le (i := i) (by omega); omega⟩
  have ekk : ((m : Int) != (m : Int)) = false := by simp
  clear hf0 hn sm hz hM hm hk0 hk3 hkb
  go_enter Tryd.func12, Tryd.ntmps12
  go_wp2_with fail
  clear hW0 hR
  refine (unhide HCH).mono ?_
  rintro e wa ⟨rfl, hba⟩
  have e5 : errV 0 = .nilIface := rfl
  rw [e5]
  have HBA := hide hba
  have HCNA := hide (unhide HCN wa hba)
  clear hba e5 HCH
  go_wp2_with fail
  refine (unhide HCNA).mono ?_
  rintro e w1 ⟨rfl, rfl⟩
  obtain ⟨b_, o_, l, ea, hbk, k0, k1, hL⟩ := ((unhide HF).below (unhide HBA)).at (j := 0) (by rw [unhide HN]; omega)
  subst ea
  simp only [Nat.zero_mul, Nat.add_zero] at k0 k1
  have HSA := hide (fun W (hW : Below w1.heap.size w1 W) (gv : Nat) (l' : LawIs W (Sl.val (some ⟨gv, 0, none⟩, M, M)) (row (fun _ => 0) M)) => sold_one (unhide HGF) (unhide HSM) (i := 0) (by rw [unhide HN]; omega) l (some ⟨gv, 0, none⟩) M M 0 1 (fun _ => 0) W (hL.below hW) l' (unhide HM1).1 (unhide HM1).2.1 (by omega) (fun _ _ => RS.zero) (by omega))
  obtain ⟨p, hp⟩ : ∃ p, (ks[0]!).1 = p := ⟨_, rfl⟩
  obtain ⟨ln, hln⟩ : ∃ x, (ks[0]!).2.length = x := ⟨_, rfl⟩
  rw [hp] at k0 HSA
  rw [hln] at k1 HSA
  have HSO := HSA
  have HCC : Hid (∀ W, Below w1.heap.size w1 W → (fun w' : World => w'.cell? ⟨b_, o_, none⟩ = some (.int .i64 p) ∧ w'.cell? ⟨b_, o_ + 1, none⟩ = some (.slice l.a ln l.c)) W) := fun W hW => ⟨by rw [hW.cell (p := ⟨b_, o_, none⟩) hbk]; exact k0, by rw [hW.cell (p := ⟨b_, o_ + 1, none⟩) hbk]; exact k1⟩
  have f0 : (0 : Int) < (n : Int) := by omega
  have f1 : 0 < n := by omega
  clear hL hp hln HCNA HSA k0 k1
  go_wp2_with fail
  refine wp_region_hold (fun w' : World => w'.cell? ⟨b_, o_, none⟩ = some (.int .i64 p) ∧ w'.cell? ⟨b_, o_ + 1, none⟩ = some (.slice l.a ln l.c)) (by kernel_rfl) ?_
  have bd0 : Below w1.heap.size w1 w1.drew := (Below.refl _ _).drew
  obtain ⟨Wx, hWx⟩ : ∃ W, w1.drew = W := ⟨_, rfl⟩
  rw [hWx] at bd0 ⊢
  have hC0 : (fun w' : World => w'.cell? ⟨b_, o_, none⟩ = some (.int .i64 p) ∧ w'.cell? ⟨b_, o_ + 1, none⟩ = some (.slice l.a ln l.c)) Wx := unhide HCC _ bd0
  refine wpHold_take (i := 0) (v := ?_) rfl (by kernel_rfl) (by kernel_rfl) (by kernel_rfl) (fun _ _ _ h => h) (Or.inl ⟨by rfl, ?_⟩) hC0 ?_
  rotate_left
  · intro w hSw; clear hSw; go_simp; (try with_reducible rfl)
  (try simp only [List.getElem_toArray, List.getElem_cons_succ, List.getElem_cons_zero])
  (try simp only [Act.put, List.setIfInBounds_toArray, List.set_cons_zero, List.set_cons_succ])
  refine wpHold_take (i := 1) (v := ?_) rfl (by kernel_rfl) (by kernel_rfl) (by kernel_rfl) (fun _ _ _ h => h) (Or.inl ⟨by rfl, ?_⟩) hC0 ?_
  rotate_left
  · intro w hSw; clear hSw; go_simp; (try with_reducible rfl)
  (try simp only [List.getElem_toArray, List.getElem_cons_succ, List.getElem_cons_zero])
  (try simp only [Act.put, List.setIfInBounds_toArray, List.set_cons_zero, List.set_cons_succ])
  refine wpHold_take (i := 2) (v := ?_) rfl (by kernel_rfl) (by kernel_rfl) (by kernel_rfl) (fun _ _ _ h => h) (Or.inl ⟨by rfl, ?_⟩) hC0 ?_
  rotate_left
  · intro w hSw; (try dsimp only at hSw); obtain ⟨u0, u1⟩ := hSw; go_simp; (try with_reducible rfl)
  (try simp only [List.getElem_toArray, List.getElem_cons_succ, List.getElem_cons_zero])
  (try simp only [Act.put, List.setIfInBounds_toArray, List.set_cons_zero, List.set_cons_succ])
  refine wpHold_take (i := 3) (v := ?_) rfl (by kernel_rfl) (by kernel_rfl) (by kernel_rfl) (fun _ _ _ h => h) (Or.inl ⟨by rfl, ?_⟩) hC0 ?_
  rotate_left
  · intro w hSw; clear hSw; go_simp; (try with_reducible rfl)
  (try simp only [List.getElem_toArray, List.getElem_cons_succ, List.getElem_cons_zero])
  (try simp only [Act.put, List.setIfInBounds_toArray, List.set_cons_zero, List.set_cons_succ])
  refine wpHold_take (i := 4) (v := ?_) rfl (by kernel_rfl) (by kernel_rfl) (by kernel_rfl) (fun _ _ _ h => h) (Or.inl ⟨by rfl, ?_⟩) hC0 ?_
  rotate_left
  · intro w hSw; clear hSw; go_simp; (try with_reducible rfl)
  (try simp only [List.getElem_toArray, List.getElem_cons_succ, List.getElem_cons_zero])
  (try simp only [Act.put, List.setIfInBounds_toArray, List.set_cons_zero, List.set_cons_succ])
  have qm := make_ratios (M : Int) (by omega) (by have := unhide HM1; omega) Wx
  rw [Int.toNat_natCast] at qm
  have S0 := SumsAt.start Wx Wx M (Below.refl _ _)
  obtain ⟨W1, hW1⟩ : ∃ W, Wx.alloc (.cells (tcells (List.replicate M zTri)).toArray 39) = W := ⟨_, rfl⟩
  obtain ⟨G, hG⟩ : ∃ G, Wx.heap.size = G := ⟨_, rfl⟩
  rw [hW1] at qm S0
  rw [hG] at qm S0
  have L0 := S0.law (by rw [List.length_replicate]; have := unhide HM1; omega)
  rw [List.length_replicate, zero_row] at L0
  have HL0 : Hid (LawIs W1 (Sl.val (some ⟨G, 0, none⟩, M, M)) (row (fun _ => 0) M)) := L0
  have cc_1 := below_step bd0 S0.bl
  have hC_1 : (fun w' : World => w'.cell? ⟨b_, o_, none⟩ = some (.int .i64 p) ∧ w'.cell? ⟨b_, o_ + 1, none⟩ = some (.slice l.a ln l.c)) W1 := unhide HCC _ cc_1
  clear S0 L0
  refine wpHold_one (k := 5) (by kernel_rfl) rfl (fun K hK => ?_)
  (try simp only [List.getElem_toArray, List.getElem_cons_succ, List.getElem_cons_zero])
  go_simp
  refine hK.out _ _ hC_1 ?_
  clear hK K
  (try simp only [Act.put, List.setIfInBounds_toArray, List.set_cons_zero, List.set_cons_succ])
  refine wpHold_one (k := 6) (by kernel_rfl) rfl (fun K hK => ?_)
  (try simp only [List.getElem_toArray, List.getElem_cons_succ, List.getElem_cons_zero])
  go_simp
  refine (unhide HSO W1 cc_1 G (unhide HL0)).mono ?_
  rintro e xw_2 ⟨g2, m2, rfl, hm2, hg2, hl2, hb_2⟩
  have e2 : M = m2 := by rw [hm2, row_length]
  clear hm2
  subst e2
  have cc_2 := below_step cc_1 hb_2
  have hC_2 : (fun w' : World => w'.cell? ⟨b_, o_, none⟩ = some (.int .i64 p) ∧ w'.cell? ⟨b_, o_ + 1, none⟩ = some (.slice l.a ln l.c)) xw_2 := unhide HCC _ cc_2
  refine hK.out _ _ hC_2 ?_
  clear hK K
  (try simp only [Act.put, List.setIfInBounds_toArray, List.set_cons_zero, List.set_cons_succ])
  refine wpHold_one (k := 7) (by kernel_rfl) rfl (fun K hK => ?_)
  (try simp only [List.getElem_toArray, List.getElem_cons_succ, List.getElem_cons_zero])
  go_simp
  refine hK.out _ _ hC_2 ?_
  clear hK K
  (try simp only [Act.put, List.setIfInBounds_toArray, List.set_cons_zero, List.set_cons_succ])
  refine wpHold_done (by kernel_rfl) ?_ _
  have HB8 := hide (below_step (unhide HBA) cc_2)
  have HL8 : Hid (LawIs xw_2 (Sl.val (some ⟨g2, 0, none⟩, M, M)) (row (Sea.se (pF ks) (aF ks) (kF ks) (lim kf) 1) M)) := by
    show LawIs _ _ _
    rw [← se_one]; exact hl2
  clear hC0 hC_1 hC_2 cc_1 cc_2 bd0 hb_2 hl2 hg2 HCC HSO qm hW1 hG hWx
  have f2 : (1 : Int) ≤ (n : Int) := by omega
  have f3 : (n : Int) ≤ (c : Int) := by omega
  have HSI : Hid (s < M) := by show s < M; have := unhide HM1; omega
  by_cases hc1 : c = 1
  · have hn1' : n = 1 := by omega
    subst hc1
    subst hn1'
    obtain rfl : m = 0 := by have := unhide HMM; omega
    have HL9 := hide (unhide HL8)
    go_wp2_with fail
    go_loopw [9, 41] (fun v9 vi wr => v9 = .slice (some ⟨g2, 0, none⟩) M M ∧ vi = .int .i64 0 ∧ wr = xw_2) (fun _ _ _ => 0)
    case atStart => exact ⟨rfl, rfl, rfl⟩
    case round =>
      obtain ⟨rfl, rfl, rfl⟩ := hrel
      have HLE := hide (show Sea.se (pF ks) (aF ks) (kF ks) (lim kf) 1 = Sea.se (pF ks) (aF ks) (kF ks) (lim kf) 1 from rfl)
      have HFL : Hid (LawIs wr (Sl.val (some ⟨g2, 0, none⟩, M, M)) (row (Sea.se (pF ks) (aF ks) (kF ks) (lim kf) 1) M)) := by
        show LawIs _ _ _
        rw [← unhide HLE]; exact unhide HL9
      obtain ⟨ba, oa, ea3, hba3, Hba3⟩ := (unhide HFL).open (row_length _ M) (by have := unhide HM1; omega)
      obtain ⟨t3, q0, q1, q2, r3⟩ := Hba3 s (unhide HSI)
      rw [row_get (unhide HSI)] at r3
      have ea3 : some (⟨g2, 0, none⟩ : Addr) = some ⟨ba, oa, none⟩ := ea3
      injection ea3 with ea3
      injection ea3 with eb3 eo3
      subst eb3 eo3
      simp only [Nat.zero_add] at q0 q1 q2
      have Y := unhide HX _ (unhide HB8)
      have ⟨l0, l1, l2⟩ := Y.free
      have ⟨y0, y1, y2⟩ := Y.cells _ (Below.refl _ _)
      have FIN := Y.set r3
      have FB := (((unhide HBW _ (unhide HB8)).setCell (p := ⟨R, 0, none⟩) (unhide HG) (.bool t3.s)).setCell (p := ⟨R, 1, none⟩) (unhide HG) (.slice t3.a1 t3.n1 t3.c1)).setCell (p := ⟨R, 2, none⟩) (unhide HG) (.slice t3.a2 t3.n2 t3.c2)
      obtain ⟨Wf, hWf⟩ : ∃ W, ((wr.setCell ⟨R, 0, none⟩ (.bool t3.s)).setCell ⟨R, 1, none⟩ (.slice t3.a1 t3.n1 t3.c1)).setCell ⟨R, 2, none⟩ (.slice t3.a2 t3.n2 t3.c2) = W := ⟨_, rfl⟩
      rw [hWf] at FIN FB
      have HFIN := hide FIN
      have HFB := hide FB
      have ⟨x0, x1, x2⟩ := FIN.cells _ (Below.refl _ _)
      have s0 : (0 : Int) ≤ (s : Int) := by omega
      have s1 : (s : Int) < (M : Int) := by have := unhide HSI; omega
      clear Y FIN FB r3 Hba3
      go_wp2
      (try simp only [Exit.inBlock, Exit.then])
      exact bodyPost_ret (v := .tuple #[.agg #[.bool t3.s, .slice t3.a1 t3.n1 t3.c1, .slice t3.a2 t3.n2 t3.c2], .nilIface]) (by simp [results, Tryd.results12, go_sem, x0, x1, x2]) rfl ⟨t3, rfl, (unhide HFIN).2, unhide HFB⟩
  · have HC1 := hide hc1
    go_wp2_with fail
    have HMN : Hid (n - 1 = m) := by show _ = _; have := unhide HMM; omega
    rw [unhide HMN]
    clear f2 f3
    go_loopw [9, 41] (fun v9 vi wr => ∃ (i gv : Nat), v9 = .slice (some ⟨gv, 0, none⟩) M M ∧ vi = .int .i64 (i : Int) ∧ i ≤ m ∧ LawIs wr (Sl.val (some ⟨gv, 0, none⟩, M, M)) (row (Sea.se (pF ks) (aF ks) (kF ks) (lim kf) (i + 1)) M) ∧ Below W0.heap.size W0 wr) (fun _ vi _ => m - (intOf vi).toNat)
    case atStart => exact ⟨0, g2, rfl, rfl, Nat.zero_le _, unhide HL8, unhide HB8⟩
    case round =>
      obtain ⟨i, gv, rfl, rfl, hi, hlw, hb⟩ := hrel
      clear HL8 HB8
      have HB := hide hb
      have HLW := hide hlw
      by_cases hlt : i < m
      · have f1' : (i : Int) < (m : Int) := by omega
        have f0' : (0 : Int) ≤ (i : Int) := by omega
        obtain ⟨i1, hi1⟩ : ∃ i1, i + 1 = i1 := ⟨_, rfl⟩
        rw [hi1] at hlw
        obtain ⟨b2_, o2_, l, ea2, hbk2, k0, k1, hL⟩ := ((unhide HF).below hb).at (j := i1) (by rw [unhide HN]; omega)
        injection ea2 with ea2
        injection ea2 with eb2 eo2
        subst eb2 eo2
        have eo : o_ + i1 * 2 = o_ + 2 + i * 2 := by omega
        rw [eo] at k0 k1
        obtain ⟨kb, ko, ek, hkl, hkc⟩ : ∃ kb ko, ka = some ⟨kb, ko, none⟩ ∧ kb < wr.heap.size ∧ wr.cell? ⟨kb, ko + i, none⟩ = some (.int .i64 (kf i : Int)) := by
          obtain ⟨a', c', e, _, _, h3⟩ := (unhide HKN).below hb
          injection e with e1 e2 e3
          obtain ⟨b, o, ea, hlt', hcc⟩ := h3 (by omega)
          exact ⟨b, o, by rw [e1, ea], hlt', hcc i hlt⟩
        subst ek
        have hkb1 := unhide HKB i hlt
        have HSA := hide (fun W (hW : Below wr.heap.size wr W) (l' : LawIs W (Sl.val (some ⟨gv, 0, none⟩, M, M)) (row (Sea.se (pF ks) (aF ks) (kF ks) (lim kf) i1) M)) => sold_one (unhide HGF) (unhide HSM) (i := i1) (by rw [unhide HN]; omega) l (some ⟨gv, 0, none⟩) M M (kf i) (wz i1) (Sea.se (pF ks) (aF ks) (kF ks) (lim kf) i1) W (hL.below hW) l' (unhide HM1).1 (unhide HM1).2.1 hkb1 (unhide HRV i1 (by omega)) (unhide HWZ i1 (by omega)).2)
        obtain ⟨p, hp⟩ : ∃ p, (ks[i1]!).1 = p := ⟨_, rfl⟩
        obtain ⟨ln, hln⟩ : ∃ x, (ks[i1]!).2.length = x := ⟨_, rfl⟩
        rw [hp] at k0 HSA
        rw [hln] at k1 HSA
        have b5 := alloc_below wr (.cells #[.int .i64 p, .slice l.a ln l.c] 72)
        have n5 := heap_alloc_new wr (.cells #[.int .i64 p, .slice l.a ln l.c] 72)
        obtain ⟨W5, hW5⟩ : ∃ W, wr.alloc (.cells #[.int .i64 p, .slice l.a ln l.c] 72) = W := ⟨_, rfl⟩
        obtain ⟨bf, hbf⟩ : ∃ b, wr.heap.size = b := ⟨_, rfl⟩
        rw [hW5] at b5 n5
        rw [hbf] at n5
        have HB5 := hide (below_step hb b5)
        have HN5 := hide n5
        have hbl := (Array.getElem?_eq_some_iff.1 n5).1
        have HCC : Hid (∀ W, Below W5.heap.size W5 W → (fun w' : World => (w'.cell? ⟨bf, 0, none⟩ = some (.int .i64 p) ∧ w'.cell? ⟨bf, 1, none⟩ = some (.slice l.a ln l.c)) ∧ w'.cell? ⟨kb, ko + i, none⟩ = some (.int .i64 (kf i : Int))) W) := fun W hW => by
          have h2 : W.heap[bf]? = _ := (hW.block bf hbl).trans (unhide HN5)
          exact ⟨by simp [World.cell?, h2], by rw [(below_step b5 hW).cell (p := ⟨kb, ko + i, none⟩) hkl]; exact hkc⟩
        have HSO := hide (fun W (hW : Below W5.heap.size W5 W) => unhide HSA W (below_step b5 hW) (hlw.below (below_step b5 hW)))
        have HWO : Hid (Sea.sd (pF ks i1) (aF ks i1) (kF ks i1) (Sea.se (pF ks) (aF ks) (kF ks) (lim kf) i1) (kf i) = Sea.se (pF ks) (aF ks) (kF ks) (lim kf) (i1 + 1)) := by
          show _ = Sea.sd _ _ _ _ (lim kf i1)
          have : lim kf i1 = kf i := by unfold lim; rw [if_neg (by omega), ← hi1, Nat.add_sub_cancel]
          rw [this]
        have HI1 := hide hi1
        have g1 : (i : Int) < (n : Int) - 1 := by omega
        clear hb hlw hL n5 b5 hbl HSA hp hln hkc hkl hkb1 eo hi1 hbk2 HLW
        go_wp2_with fail
        clear hW5 hbf k0 k1
        refine wp_region_hold (fun w' : World => (w'.cell? ⟨bf, 0, none⟩ = some (.int .i64 p) ∧ w'.cell? ⟨bf, 1, none⟩ = some (.slice l.a ln l.c)) ∧ w'.cell? ⟨kb, ko + i, none⟩ = some (.int .i64 (kf i : Int))) (by kernel_rfl) ?_
        have bd0 : Below W5.heap.size W5 W5.drew := (Below.refl _ _).drew
        have hC0 : (fun w' : World => (w'.cell? ⟨bf, 0, none⟩ = some (.int .i64 p) ∧ w'.cell? ⟨bf, 1, none⟩ = some (.slice l.a ln l.c)) ∧ w'.cell? ⟨kb, ko + i, none⟩ = some (.int .i64 (kf i : Int))) W5.drew := unhide HCC _ bd0
        refine wpHold_take (i := 0) (v := ?_) rfl (by kernel_rfl) (by kernel_rfl) (by kernel_rfl) (fun _ _ _ h => h) (Or.inl ⟨by rfl, ?_⟩) hC0 ?_
        rotate_left
        · intro w hSw; (try dsimp only at hSw); obtain ⟨⟨u0, u1⟩, u2⟩ := hSw; go_simp; (try with_reducible rfl)
        (try simp only [List.getElem_toArray, List.getElem_cons_succ, List.getElem_cons_zero])
        (try simp only [Act.put, List.setIfInBounds_toArray, List.set_cons_zero, List.set_cons_succ])
        refine wpHold_take (i := 1) (v := ?_) rfl (by kernel_rfl) (by kernel_rfl) (by kernel_rfl) (fun _ _ _ h => h) (Or.inl ⟨by rfl, ?_⟩) hC0 ?_
        rotate_left
        · intro w hSw; clear hSw; go_simp; (try with_reducible rfl)
        (try simp only [List.getElem_toArray, List.getElem_cons_succ, List.getElem_cons_zero])
        (try simp only [Act.put, List.setIfInBounds_toArray, List.set_cons_zero, List.set_cons_succ])
        refine wpHold_take (i := 2) (v := ?_) rfl (by kernel_rfl) (by kernel_rfl) (by kernel_rfl) (fun _ _ _ h => h) (Or.inl ⟨by rfl, ?_⟩) hC0 ?_
        rotate_left
        · intro w hSw; clear hSw; go_simp; (try with_reducible rfl)
        (try simp only [List.getElem_toArray, List.getElem_cons_succ, List.getElem_cons_zero])
        (try simp only [Act.put, List.setIfInBounds_toArray, List.set_cons_zero, List.set_cons_succ])
        refine wpHold_take (i := 3) (v := ?_) rfl (by kernel_rfl) (by kernel_rfl) (by kernel_rfl) (fun _ _ _ h => h) (Or.inl ⟨by rfl, ?_⟩) hC0 ?_
        rotate_left
        · intro w hSw; clear hSw; go_simp; (try with_reducible rfl)
        (try simp only [List.getElem_toArray, List.getElem_cons_succ, List.getElem_cons_zero])
        (try simp only [Act.put, List.setIfInBounds_toArray, List.set_cons_zero, List.set_cons_succ])
        refine wpHold_take (i := 4) (v := ?_) rfl (by kernel_rfl) (by kernel_rfl) (by kernel_rfl) (fun _ _ _ h => h) (Or.inl ⟨by rfl, ?_⟩) hC0 ?_
        rotate_left
        · intro w hSw; clear hSw; go_simp; (try with_reducible rfl)
        (try simp only [List.getElem_toArray, List.getElem_cons_succ, List.getElem_cons_zero])
        (try simp only [Act.put, List.setIfInBounds_toArray, List.set_cons_zero, List.set_cons_succ])
        refine wpHold_take (i := 5) (v := ?_) rfl (by kernel_rfl) (by kernel_rfl) (by kernel_rfl) (fun _ _ _ h => h) (Or.inl ⟨by rfl, ?_⟩) hC0 ?_
        rotate_left
        · intro w hSw; (try dsimp only at hSw); obtain ⟨⟨u0, u1⟩, u2⟩ := hSw; go_simp; (try with_reducible rfl)
        (try simp only [List.getElem_toArray, List.getElem_cons_succ, List.getElem_cons_zero])
        (try simp only [Act.put, List.setIfInBounds_toArray, List.set_cons_zero, List.set_cons_succ])
        refine wpHold_one (k := 6) (by kernel_rfl) rfl (fun K hK => ?_)
        (try simp only [List.getElem_toArray, List.getElem_cons_succ, List.getElem_cons_zero])
        go_simp
        refine (unhide HSO _ bd0).mono ?_
        rintro e xw_1 ⟨g2, m2, rfl, hm2, hg2, hl2, hb_1⟩
        have e2 : M = m2 := by rw [hm2, row_length]
        clear hm2
        subst e2
        have cc_1 := below_step bd0 hb_1
        have hC_1 : (fun w' : World => (w'.cell? ⟨bf, 0, none⟩ = some (.int .i64 p) ∧ w'.cell? ⟨bf, 1, none⟩ = some (.slice l.a ln l.c)) ∧ w'.cell? ⟨kb, ko + i, none⟩ = some (.int .i64 (kf i : Int))) xw_1 := unhide HCC _ cc_1
        refine hK.out _ _ hC_1 ?_
        clear hK K
        (try simp only [Act.put, List.setIfInBounds_toArray, List.set_cons_zero, List.set_cons_succ])
        refine wpHold_one (k := 7) (by kernel_rfl) rfl (fun K hK => ?_)
        (try simp only [List.getElem_toArray, List.getElem_cons_succ, List.getElem_cons_zero])
        go_simp
        refine hK.out _ _ hC_1 ?_
        clear hK K
        (try simp only [Act.put, List.setIfInBounds_toArray, List.set_cons_zero, List.set_cons_succ])
        refine wpHold_done (by kernel_rfl) ?_ _
        have HBZ := hide (below_step (unhide HB5) cc_1)
        have HLZ := hide hl2
        clear hC0 hC_1 cc_1 bd0 hb_1 hl2 hg2 HCC HSO
        go_wp2_with fail
        have hi1 := unhide HI1
        exact ⟨⟨i + 1, g2, rfl, by go_num, hlt, by rw [hi1, ← unhide HWO]; exact unhide HLZ, unhide HBZ⟩, by simp [intOf]; omega⟩
      · obtain rfl : i = m := by omega
        have f1' : ¬ (i : Int) < (i : Int) := by omega
        have HLE : Hid (Sea.se (pF ks) (aF ks) (kF ks) (lim kf) (i + 1) = Sea.se (pF ks) (aF ks) (kF ks) (lim kf) n) := by show _ = _; rw [unhide HMM]
        clear hb hlw
        have HFL : Hid (LawIs wr (Sl.val (some ⟨gv, 0, none⟩, M, M)) (row (Sea.se (pF ks) (aF ks) (kF ks) (lim kf) n) M)) := by
          show LawIs _ _ _
          rw [← unhide HLE]; exact unhide HLW
        obtain ⟨ba, oa, ea3, hba3, Hba3⟩ := (unhide HFL).open (row_length _ M) (by have := unhide HM1; omega)
        obtain ⟨t3, q0, q1, q2, r3⟩ := Hba3 s (unhide HSI)
        rw [row_get (unhide HSI)] at r3
        have ea3 : some (⟨gv, 0, none⟩ : Addr) = some ⟨ba, oa, none⟩ := ea3
        injection ea3 with ea3
        injection ea3 with eb3 eo3
        subst eb3 eo3
        simp only [Nat.zero_add] at q0 q1 q2
        have Y := unhide HX _ (unhide HB)
        have ⟨l0, l1, l2⟩ := Y.free
        have ⟨y0, y1, y2⟩ := Y.cells _ (Below.refl _ _)
        have FIN := Y.set r3
        have FB := (((unhide HBW _ (unhide HB)).setCell (p := ⟨R, 0, none⟩) (unhide HG) (.bool t3.s)).setCell (p := ⟨R, 1, none⟩) (unhide HG) (.slice t3.a1 t3.n1 t3.c1)).setCell (p := ⟨R, 2, none⟩) (unhide HG) (.slice t3.a2 t3.n2 t3.c2)
        obtain ⟨Wf, hWf⟩ : ∃ W, ((wr.setCell ⟨R, 0, none⟩ (.bool t3.s)).setCell ⟨R, 1, none⟩ (.slice t3.a1 t3.n1 t3.c1)).setCell ⟨R, 2, none⟩ (.slice t3.a2 t3.n2 t3.c2) = W := ⟨_, rfl⟩
        rw [hWf] at FIN FB
        have HFIN := hide FIN
        have HFB := hide FB
        have ⟨x0, x1, x2⟩ := FIN.cells _ (Below.refl _ _)
        have s0 : (0 : Int) ≤ (s : Int) := by omega
        have s1 : (s : Int) < (M : Int) := by have := unhide HSI; omega
        clear Y FIN FB r3 Hba3
        go_wp2
        (try simp only [Exit.inBlock, Exit.then])
        exact bodyPost_ret (v := .tuple #[.agg #[.bool t3.s, .slice t3.a1 t3.n1 t3.c1, .slice t3.a2 t3.n2 t3.c2], .nilIface]) (by simp [results, Tryd.results12, go_sem, x0, x1, x2]) rfl ⟨t3, rfl, (unhide HFIN).2, unhide HFB⟩
end Go.Proofs.YtfnbjenneodcdaaDoor
