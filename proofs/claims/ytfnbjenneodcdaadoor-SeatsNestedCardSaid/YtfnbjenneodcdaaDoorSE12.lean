/- SeatsNested's walk. -/
import Derived.Test.YtfnbjenneodcdaaDoorSE7
import Derived.Test.YtfnbjenneodcdaaDoorSE8
import Derived.Test.YtfnbjenneodcdaaDoorSE10
import Derived.Test.YtfnbjenneodcdaaDoorSE11
namespace Go.Proofs.YtfnbjenneodcdaaDoor
open Go.RowKit Go.Sort Go.Shelf

def updI (f : Nat → Int) (j : Nat) (v : Int) : Nat → Int := fun i => if i = j then v else f i
theorem lrow_set (lf : Nat → Int) {n j : Nat} (v : Int) : (lrow lf n).set j (.int .i64 v) = lrow (updI lf j v) n := by
  apply List.ext_getElem?
  intro i
  unfold lrow updI
  rw [List.getElem?_set]
  by_cases h : j = i
  · subst h
    by_cases hj : j < n <;> simp [hj]
  · by_cases hi : i < n <;> simp [h, hi, Ne.symm h]
theorem lrow_congr {f g : Nat → Int} {n : Nat} (h : ∀ j, j < n → f j = g j) : lrow f n = lrow g n := by
  unfold lrow
  exact List.map_congr_left fun j hj => by rw [h j (List.mem_range.1 hj)]
/-- Block G is the row. -/
def OwnI (w : World) (G n : Nat) (lf : Nat → Int) : Prop := w.heap[G]? = some (.cells (lrow lf n).toArray 3)
theorem OwnI.lt {w : World} {G n : Nat} {lf : Nat → Int} (h : OwnI w G n lf) : G < w.heap.size := (Array.getElem?_eq_some_iff.1 h).1
theorem OwnI.keep {w w' : World} {G n : Nat} {lf : Nat → Int} (h : OwnI w G n lf) (hb : Below w.heap.size w w') : OwnI w' G n lf := by
  unfold OwnI; rw [hb.block G h.lt]; exact h
theorem OwnI.cell {w : World} {G n : Nat} {lf : Nat → Int} (h : OwnI w G n lf) {j : Nat} (hj : j < n) : w.cell? ⟨G, j, none⟩ = some (.int .i64 (lf j)) := by
  unfold OwnI at h
  simp only [World.cell?, h]
  have := lrow_get lf hj
  simpa using this
theorem OwnI.free {w : World} {G n : Nat} {lf : Nat → Int} (h : OwnI w G n lf) (j : Nat) : w.frozen? ⟨G, j, none⟩ = false := by
  unfold OwnI at h; simp [World.frozen?, h]
theorem OwnI.set {w : World} {G n : Nat} {lf : Nat → Int} (h : OwnI w G n lf) (j : Nat) (v : Int) : OwnI (w.setCell ⟨G, j, none⟩ (.int .i64 v)) G n (updI lf j v) := by
  unfold OwnI at h ⊢
  rw [setCell_eq]
  simp only [mapBlock, Array.getElem?_modify, h, if_true, Option.map_some, onCells]
  rw [← lrow_set]
  simp
theorem OwnI.congr {w : World} {G n : Nat} {f g : Nat → Int} (h : OwnI w G n f) (e : ∀ j, j < n → f j = g j) : OwnI w G n g := by
  unfold OwnI at h ⊢; rw [← lrow_congr e]; exact h
theorem make_ints (k : Nat) (h1 : k ≤ 1099511627776) (w : World) :
    (Instr.makeSlice 23 (.int .i64 (k : Int)) (.int .i64 (k : Int))).run Tryd.prog w = .ok (.slice (some ⟨w.heap.size, 0, none⟩) k k) (w.alloc (.cells (lrow (fun _ => 0) k).toArray 3)) := by
  obtain ⟨i, hi, hz0, hz1, hz2⟩ := info_parts Tryd.infoI
  have e : madeCells (Value.int .i64 0).cells ((k : Int).toNat * i.size) = (lrow (fun _ => 0) k).toArray := by
    rw [hz1]
    apply Array.ext
    · simp [madeCells, lrow]
    · intro j h1 h2
      simp [madeCells, lrow, Value.cells, Nat.mod_one]
  rw [run_make w 23 3 i (.int .i64 0) Tryd.underlying23 hi hz0 .i64 .i64 k k (by omega) (Int.le_refl _) (by rw [hz2]; omega) (by omega), e]
  simp
theorem make_own (w : World) (k : Nat) : OwnI (w.alloc (.cells (lrow (fun _ => 0) k).toArray 3)) w.heap.size k (fun _ => 0) := heap_alloc_new w _
theorem OwnI.nrow {w : World} {G n : Nat} {f : Nat → Int} (h : OwnI w G n f) (hn : n ≤ 9223372036854775807) : NRow w (.slice (some ⟨G, 0, none⟩) n n) n f := ⟨_, _, rfl, Nat.le_refl _, hn, fun _ => ⟨G, 0, rfl, h.lt, fun j hj => by rw [Nat.zero_add]; exact h.cell hj⟩⟩
/-- What the laws need of the best limits. -/
structure NestM (ks : List (Int × List Rat)) (N : Nat) : Prop where
  same : Sea.se (pF ks) (aF ks) (kF ks) (lim fun j => Sea.kpo (pF ks) (aF ks) (kF ks) N (j + 1)) ks.length = Sea.wo (pF ks) (aF ks) (kF ks) N ks.length
  nest : ∀ i, i + 1 < ks.length → Sea.kpo (pF ks) (aF ks) (kF ks) N i ≤ Sea.kpo (pF ks) (aF ks) (kF ks) N (i + 1)
  cc : ∀ s, s + 2 ≤ N → Sea.wo (pF ks) (aF ks) (kF ks) N ks.length (s + 2) - Sea.wo (pF ks) (aF ks) (kF ks) N ks.length (s + 1) ≤ Sea.wo (pF ks) (aF ks) (kF ks) N ks.length (s + 1) - Sea.wo (pF ks) (aF ks) (kF ks) N ks.length s
  best : ∀ kf : Nat → Nat, Sea.se (pF ks) (aF ks) (kF ks) (lim kf) ks.length N ≤ Sea.wo (pF ks) (aF ks) (kF ks) N ks.length N
theorem nestM {ks : List (Int × List Rat)} (g : GoodF ks) (N : Nat) : NestM ks N where
  same := by
    rw [Sea.wo_se]
    refine Sea.se_congr _ (fun j _ => ?_)
    unfold lim
    by_cases e : j = 0
    · rw [if_pos e, e, Sea.kpo_zero (Rat.le_of_lt (pF_ps g (by have := g.n1; omega)))]
    · rw [if_neg e]
      show Sea.kpo (pF ks) (aF ks) (kF ks) N (j - 1 + 1) = _
      rw [show j - 1 + 1 = j by omega]
  nest i hi := Sea.nested (n := ks.length) g.law (by omega) (pF_ord g hi)
  cc := Sea.wo_cc g.law _ (Nat.le_refl _)
  best kf := Sea.best g.law (lim kf) _ (Nat.le_refl _) N (Nat.le_refl _)
theorem kpo_le {ks : List (Int × List Rat)} (N i : Nat) : Sea.kpo (pF ks) (aF ks) (kF ks) N i ≤ N := Sea.kp_le _ _ _
theorem sub_cc {a b c : Rat} (h : a - b ≤ b - c) : cmpv (a - b) (b - c) ≤ 0 := (cmpv_le h).2

set_option maxHeartbeats 16000000 in
set_option maxRecDepth 100000 in
set_option linter.unusedSimpArgs false in
theorem seatsNested_any (v vk : Value) (ps : List (Int × List (Int × Int))) (x : Int) (nk : Nat) (fk : Nat → Int) (w : World) (htab : Tab w) (h : PFaresAre w v ps) (hk : NRow w vk nk fk) :
    Calls Tryd.prog 3 #[v, .int .i64 x, vk] w fun e w' => e = .returned (.bool true) ∧ Below w.heap.size w w' := by
  have HTB0 := hide htab
  have HP := hide h
  have HK := hide hk
  have HSH := hide (short_any v ps w h)
  obtain ⟨a, c, rfl, h1, h2, h4, h3⟩ := h
  obtain ⟨ka, kc, rfl, hk1, hk2, hk3⟩ := hk
  obtain ⟨n, hn⟩ : ∃ n, ps.length = n := ⟨_, rfl⟩
  have HN := hide hn
  rw [hn] at h1 HSH HP ⊢
  clear h3 h4 hk3 htab hn
  go_enter Tryd.func3, Tryd.ntmps3
  go_wp2_with fail
  refine (unhide HSH).mono ?_
  rintro e w1 ⟨(⟨hs, rfl⟩ | ⟨hs, rfl⟩), hb1⟩
  rotate_left
  · have HB := hide hb1
    clear hb1 HSH
    go_wp2
    go_ret
    exact ⟨rfl, unhide HB⟩
  have HS := hide hs
  have HB1 := hide hb1
  clear hs hb1 HSH
  by_cases h10 : (10 : Int) < (nk : Int)
  · go_wp2
    go_ret
    exact ⟨rfl, unhide HB1⟩
  have hn4 : n ≤ 4 := by rw [← unhide HN]; exact (unhide HS).2
  go_wp2_with fail
  refine (pick_any x 10 (by decide) (by decide) w1).mono ?_
  rintro e w1' ⟨N, rfl, hN, rfl⟩
  have HFA := hide (fares_any (.slice a n c) ps w1' ((unhide HP).below (unhide HB1)) (by rw [unhide HN]; omega) (fun j hj => by have := (unhide HS).1 j hj; omega))
  go_wp2_with fail
  refine (unhide HFA).mono ?_
  rintro e w2 ⟨vf, rfl, hvf, hb2⟩
  have hflen : (frOf ps).length = n := by rw [frOf_length]; exact unhide HN
  have hsmf : SmF (frOf ps) := smF_of (unhide HP) (by rw [unhide HN]; exact hn4) (fun j hj => by have := (unhide HS).1 j hj; omega)
  obtain ⟨ks, hks⟩ : ∃ ks, frOf ps = ks := ⟨_, rfl⟩
  rw [hks] at hvf hflen hsmf
  have HFL := hide hflen
  have HSM := hide hsmf
  have HB2 := hide (below_step (unhide HB1) hb2)
  have HVF := hide hvf
  have HKE := hide (keep_any vf ks N w2 hvf hsmf (by omega))
  have hvf' := hvf
  obtain ⟨fa, fc, rfl, -, -, -⟩ := hvf'
  rw [hflen] at HVF HKE ⊢
  clear hvf hflen hsmf hb2 HFA hks
  go_wp2_with fail
  refine (unhide HKE).mono ?_
  rintro e w3 (⟨hne, k, rfl, hb3⟩ | ⟨hz, vk2, rfl, hrow, hb3⟩)
  · have HB3 := hide (below_step (unhide HB2) hb3)
    clear hne hb3 HKE
    go_wp2_with fail
    refine (flown_any w3).mono ?_
    rintro e w4 ⟨rfl, hb4⟩
    have HB4 := hide (below_step (unhide HB3) hb4)
    clear hb4
    go_wp2_with fail
    refine (flown_any w4).mono ?_
    rintro e w5 ⟨rfl, hb5⟩
    have HB5 := hide (below_step (unhide HB4) hb5)
    clear hb5
    go_wp2
    go_ret
    exact ⟨rfl, unhide HB5⟩
  have HZ := hide hz
  have HG := hide (goodF_of hz)
  have HROW3 := hide hrow
  have HB3 := hide (below_step (unhide HB2) hb3)
  have HV3 := hide ((unhide HVF).below hb3)
  have HNM := hide (nestM (goodF_of hz) N)
  obtain ⟨ka2, kc2, rfl, hkc1, hkc2, -⟩ := hrow
  clear hz hb3 HKE HVF
  go_wp2_with fail
  refine (flown_any w3).mono ?_
  rintro e w4 ⟨rfl, hb4⟩
  have HB4 := hide (below_step (unhide HB3) hb4)
  have HV4 := hide ((unhide HV3).below hb4)
  have HROW4 := hide ((unhide HROW3).below hb4)
  have HWO := hide (worth_any (.slice fa n fc) ks N w4 (unhide HV4) (unhide HSM) (unhide HZ) (by omega))
  rw [unhide HFL] at HWO HROW4
  clear hb4 HV3 HROW3
  obtain ⟨m, hm⟩ : ∃ m, n - 1 = m := ⟨_, rfl⟩
  rw [unhide HFL, hm] at hkc1
  rw [hm] at HROW4
  rw [unhide HFL, hm]
  have HNG : Hid (1 ≤ n) := by show 1 ≤ n; rw [← unhide HFL]; exact (unhide HG).n1
  have HMM : Hid (m + 1 = n) := by show _ = _; have := unhide HNG; omega
  have HM0 := hide hm
  clear hm
  go_wp2_with fail
  refine (unhide HWO).mono ?_
  rintro e w5 ⟨gv, rfl, hlv, hb5⟩
  obtain ⟨M, hM⟩ : ∃ M, N + 1 = M := ⟨_, rfl⟩
  rw [hM] at hlv ⊢
  have HM1 : Hid (N + 1 = M) := hM
  have HLV := hide hlv
  have HB5 := hide (below_step (unhide HB4) hb5)
  have HV5 := hide ((unhide HV4).below hb5)
  have HROW5 := hide ((unhide HROW4).below hb5)
  have HSE := hide (sell_any (.slice fa n fc) (.slice ka2 m kc2) ks N (fun j => Sea.kpo (pF ks) (aF ks) (kF ks) N (j + 1)) w5 (unhide HV5) (unhide HSM) (unhide HZ) (by omega) (by rw [unhide HFL, unhide HM0]; exact unhide HROW5) (fun j _ => by have := kpo_le (ks := ks) N (j + 1); omega))
  rw [(unhide HNM).same] at HSE
  clear hlv hb5 HWO HV4 HROW4 hM
  go_wp2_with fail
  refine (unhide HSE).mono ?_
  rintro e w6 ⟨tS, rfl, hrS, hb6⟩
  simp only [Tri.val]
  have b6 := below_step hb6 (alloc_below w6 (.cells #[.bool tS.s, .slice tS.a1 tS.n1 tS.c1, .slice tS.a2 tS.n2 tS.c2] 39))
  have X6 := BoxIs.new hrS
  obtain ⟨W6, hW6⟩ : ∃ W, w6.alloc (.cells #[.bool tS.s, .slice tS.a1 tS.n1 tS.c1, .slice tS.a2 tS.n2 tS.c2] 39) = W := ⟨_, rfl⟩
  obtain ⟨bS, hbS⟩ : ∃ b, w6.heap.size = b := ⟨_, rfl⟩
  rw [hW6] at b6 X6
  rw [hbS] at X6
  obtain ⟨V, hV⟩ : ∃ V : Nat → Rat, Sea.wo (pF ks) (aF ks) (kF ks) N n = V := ⟨_, rfl⟩
  rw [unhide HFL, hV] at X6
  rw [hV] at HLV
  have HVV := hide hV
  have HXS := hide X6
  have HB6 := hide (below_step (unhide HB5) b6)
  have HV6 := hide ((unhide HV5).below b6)
  have HROW6 := hide ((unhide HROW5).below b6)
  have HL6 := hide ((unhide HLV).below b6)
  have HRV : Hid (∀ i, i < M → RS (V i) 100000) := fun i hi => by
    rw [← unhide HVV]
    exact (wo_RS (unhide HSM) (unhide HG) N n (by rw [unhide HFL]; exact Nat.le_refl _) i (by have := unhide HM1; omega)).mono (wz_le hn4)
  have HTBW : Hid (∀ W, Below W6.heap.size W6 W → Tab W) := fun W hW => tab_below (unhide HTB0) (below_step (unhide HB6) hW)
  obtain ⟨ba, oa, ea, hba, Hba_⟩ := (unhide HL6).open (row_length V M) (by have := unhide HM1; omega)
  have ea : some (⟨gv, 0, none⟩ : Addr) = some ⟨ba, oa, none⟩ := ea
  injection ea with ea
  injection ea with eb3 eo3
  subst eb3 eo3
  simp only [Nat.zero_add] at Hba_
  have Hba := hide Hba_
  have HLB := hide hba
  obtain ⟨ta, q0, q1, q2, r3⟩ := Hba_ N (by have := unhide HM1; omega)
  rw [row_get (by have := unhide HM1; omega)] at r3
  have HTA := hide r3
  have HCC : Hid (∀ W, Below W6.heap.size W6 W → (fun w' : World => (w'.cell? ⟨gv, N * 3, none⟩ = some (.bool ta.s) ∧ w'.cell? ⟨gv, N * 3 + 1, none⟩ = some (.slice ta.a1 ta.n1 ta.c1) ∧ w'.cell? ⟨gv, N * 3 + 2, none⟩ = some (.slice ta.a2 ta.n2 ta.c2)) ∧ (w'.cell? ⟨bS, 0, none⟩ = some (.bool tS.s) ∧ w'.cell? ⟨bS, 1, none⟩ = some (.slice tS.a1 tS.n1 tS.c1) ∧ w'.cell? ⟨bS, 2, none⟩ = some (.slice tS.a2 tS.n2 tS.c2))) W) := fun W hW => ⟨⟨by rw [hW.cell (p := ⟨gv, N * 3, none⟩) hba]; exact q0, by rw [hW.cell (p := ⟨gv, N * 3 + 1, none⟩) hba]; exact q1, by rw [hW.cell (p := ⟨gv, N * 3 + 2, none⟩) hba]; exact q2⟩, (unhide HXS).cells W hW⟩
  have HLK := hide (fun W (hW : Below W6.heap.size W6 W) => like_any ta.val tS.val (V N) W ((unhide HTA).below hW) ((unhide HXS).keep hW).2 100000 (unhide HRV N (by have := unhide HM1; omega)) (by rw [KKe]; omega) (unhide HTBW W hW))
  have hwN : IntKind.i64.wrap ((N : Int) + 1) = (M : Int) := by rw [IntKind.wrap_i64]; have := unhide HM1; omega
  have eMM : ((M : Int) != (M : Int)) = false := by simp
  have g0 : (0 : Int) ≤ (N : Int) := by omega
  have g1 : (N : Int) < (M : Int) := by have := unhide HM1; omega
  simp only [Tri.val] at HLK
  clear hrS hb6 b6 X6 hV HSE HV5 HROW5 HLV Hba_ hba q0 q1 q2 r3 HTA
  go_wp2_with fail
  clear hW6 hbS
  refine wp_region_hold (fun w' : World => (w'.cell? ⟨gv, N * 3, none⟩ = some (.bool ta.s) ∧ w'.cell? ⟨gv, N * 3 + 1, none⟩ = some (.slice ta.a1 ta.n1 ta.c1) ∧ w'.cell? ⟨gv, N * 3 + 2, none⟩ = some (.slice ta.a2 ta.n2 ta.c2)) ∧ (w'.cell? ⟨bS, 0, none⟩ = some (.bool tS.s) ∧ w'.cell? ⟨bS, 1, none⟩ = some (.slice tS.a1 tS.n1 tS.c1) ∧ w'.cell? ⟨bS, 2, none⟩ = some (.slice tS.a2 tS.n2 tS.c2))) (by kernel_rfl) ?_
  have bd0 : Below W6.heap.size W6 W6.drew := (Below.refl _ _).drew
  have hC0 : (fun w' : World => (w'.cell? ⟨gv, N * 3, none⟩ = some (.bool ta.s) ∧ w'.cell? ⟨gv, N * 3 + 1, none⟩ = some (.slice ta.a1 ta.n1 ta.c1) ∧ w'.cell? ⟨gv, N * 3 + 2, none⟩ = some (.slice ta.a2 ta.n2 ta.c2)) ∧ (w'.cell? ⟨bS, 0, none⟩ = some (.bool tS.s) ∧ w'.cell? ⟨bS, 1, none⟩ = some (.slice tS.a1 tS.n1 tS.c1) ∧ w'.cell? ⟨bS, 2, none⟩ = some (.slice tS.a2 tS.n2 tS.c2))) W6.drew := unhide HCC _ bd0
  refine wpHold_take (i := 0) (v := ?_) rfl (by kernel_rfl) (by kernel_rfl) (by kernel_rfl) (fun _ _ _ h => h) (Or.inl ⟨by rfl, ?_⟩) hC0 ?_
  rotate_left
  · intro w hSw; clear hSw; go_simp; (try with_reducible rfl)
  (try simp only [List.getElem_toArray, List.getElem_cons_succ, List.getElem_cons_zero])
  (try simp only [Act.put, List.setIfInBounds_toArray, List.set_cons_zero, List.set_cons_succ])
  refine wpHold_take (i := 1) (v := ?_) rfl (by kernel_rfl) (by kernel_rfl) (by kernel_rfl) (fun _ _ _ h => h) (Or.inl ⟨by rfl, ?_⟩) hC0 ?_
  rotate_left
  · intro w hSw; clear hSw; go_simp; (try with_reducible rfl)
  (try simp only [List.getElem_toArray, List.getElem_cons_succ, List.getElem_cons_zero])
  (try simp only [Act.put, List.setIfInBounds_toArray, List.set_cons_zero, List.set_cons_succ])
  refine wpHold_take (i := 2) (v := ?_) rfl (by kernel_rfl) (by kernel_rfl) (by kernel_rfl) (fun _ _ _ h => h) (Or.inl ⟨by rfl, ?_⟩) hC0 ?_
  rotate_left
  · intro w hSw; clear hSw; go_simp; (try with_reducible rfl)
  (try simp only [List.getElem_toArray, List.getElem_cons_succ, List.getElem_cons_zero])
  (try simp only [Act.put, List.setIfInBounds_toArray, List.set_cons_zero, List.set_cons_succ])
  refine wpHold_take (i := 3) (v := ?_) rfl (by kernel_rfl) (by kernel_rfl) (by kernel_rfl) (fun _ _ _ h => h) (Or.inl ⟨by rfl, ?_⟩) hC0 ?_
  rotate_left
  · intro w hSw; clear hSw; go_simp; (try with_reducible rfl)
  (try simp only [List.getElem_toArray, List.getElem_cons_succ, List.getElem_cons_zero])
  (try simp only [Act.put, List.setIfInBounds_toArray, List.set_cons_zero, List.set_cons_succ])
  refine wpHold_take (i := 4) (v := ?_) rfl (by kernel_rfl) (by kernel_rfl) (by kernel_rfl) (fun _ _ _ h => h) (Or.inl ⟨by rfl, ?_⟩) hC0 ?_
  rotate_left
  · intro w hSw; clear hSw; go_simp; (try with_reducible rfl)
  (try simp only [List.getElem_toArray, List.getElem_cons_succ, List.getElem_cons_zero])
  (try simp only [Act.put, List.setIfInBounds_toArray, List.set_cons_zero, List.set_cons_succ])
  refine wpHold_take (i := 5) (v := ?_) rfl (by kernel_rfl) (by kernel_rfl) (by kernel_rfl) (fun _ _ _ h => h) (Or.inl ⟨by rfl, ?_⟩) hC0 ?_
  rotate_left
  · intro w hSw; clear hSw; go_simp; (try with_reducible rfl)
  (try simp only [List.getElem_toArray, List.getElem_cons_succ, List.getElem_cons_zero])
  (try simp only [Act.put, List.setIfInBounds_toArray, List.set_cons_zero, List.set_cons_succ])
  refine wpHold_take (i := 6) (v := ?_) rfl (by kernel_rfl) (by kernel_rfl) (by kernel_rfl) (fun _ _ _ h => h) (Or.inl ⟨by rfl, ?_⟩) hC0 ?_
  rotate_left
  · intro w hSw; clear hSw; go_simp; (try with_reducible rfl)
  (try simp only [List.getElem_toArray, List.getElem_cons_succ, List.getElem_cons_zero])
  (try simp only [Act.put, List.setIfInBounds_toArray, List.set_cons_zero, List.set_cons_succ])
  refine wpHold_take (i := 7) (v := ?_) rfl (by kernel_rfl) (by kernel_rfl) (by kernel_rfl) (fun _ _ _ h => h) (Or.inl ⟨by rfl, ?_⟩) hC0 ?_
  rotate_left
  · intro w hSw; clear hSw; go_simp; (try with_reducible rfl)
  (try simp only [List.getElem_toArray, List.getElem_cons_succ, List.getElem_cons_zero])
  (try simp only [Act.put, List.setIfInBounds_toArray, List.set_cons_zero, List.set_cons_succ])
  refine wpHold_take (i := 8) (v := ?_) rfl (by kernel_rfl) (by kernel_rfl) (by kernel_rfl) (fun _ _ _ h => h) (Or.inl ⟨by rfl, ?_⟩) hC0 ?_
  rotate_left
  · intro w hSw; clear hSw; go_simp; (try with_reducible rfl)
  (try simp only [List.getElem_toArray, List.getElem_cons_succ, List.getElem_cons_zero])
  (try simp only [Act.put, List.setIfInBounds_toArray, List.set_cons_zero, List.set_cons_succ])
  refine wpHold_take (i := 9) (v := ?_) rfl (by kernel_rfl) (by kernel_rfl) (by kernel_rfl) (fun _ _ _ h => h) (Or.inl ⟨by rfl, ?_⟩) hC0 ?_
  rotate_left
  · intro w hSw; clear hSw; go_simp; (try with_reducible rfl)
  (try simp only [List.getElem_toArray, List.getElem_cons_succ, List.getElem_cons_zero])
  (try simp only [Act.put, List.setIfInBounds_toArray, List.set_cons_zero, List.set_cons_succ])
  refine wpHold_take (i := 10) (v := ?_) rfl (by kernel_rfl) (by kernel_rfl) (by kernel_rfl) (fun _ _ _ h => h) (Or.inl ⟨by rfl, ?_⟩) hC0 ?_
  rotate_left
  · intro w hSw; clear hSw; go_simp; (try with_reducible rfl)
  (try simp only [List.getElem_toArray, List.getElem_cons_succ, List.getElem_cons_zero])
  (try simp only [Act.put, List.setIfInBounds_toArray, List.set_cons_zero, List.set_cons_succ])
  refine wpHold_take (i := 11) (v := ?_) rfl (by kernel_rfl) (by kernel_rfl) (by kernel_rfl) (fun _ _ _ h => h) (Or.inl ⟨by rfl, ?_⟩) hC0 ?_
  rotate_left
  · intro w hSw; clear hSw; go_simp; (try with_reducible rfl)
  (try simp only [List.getElem_toArray, List.getElem_cons_succ, List.getElem_cons_zero])
  (try simp only [Act.put, List.setIfInBounds_toArray, List.set_cons_zero, List.set_cons_succ])
  refine wpHold_take (i := 12) (v := ?_) rfl (by kernel_rfl) (by kernel_rfl) (by kernel_rfl) (fun _ _ _ h => h) (Or.inl ⟨by rfl, ?_⟩) hC0 ?_
  rotate_left
  · intro w hSw; clear hSw; go_simp; (try with_reducible rfl)
  (try simp only [List.getElem_toArray, List.getElem_cons_succ, List.getElem_cons_zero])
  (try simp only [Act.put, List.setIfInBounds_toArray, List.set_cons_zero, List.set_cons_succ])
  refine wpHold_take (i := 13) (v := ?_) rfl (by kernel_rfl) (by kernel_rfl) (by kernel_rfl) (fun _ _ _ h => h) (Or.inl ⟨by rfl, ?_⟩) hC0 ?_
  rotate_left
  · intro w hSw; clear hSw; go_simp; (try with_reducible rfl)
  (try simp only [List.getElem_toArray, List.getElem_cons_succ, List.getElem_cons_zero])
  (try simp only [Act.put, List.setIfInBounds_toArray, List.set_cons_zero, List.set_cons_succ])
  refine wpHold_take (i := 14) (v := ?_) rfl (by kernel_rfl) (by kernel_rfl) (by kernel_rfl) (fun _ _ _ h => h) (Or.inl ⟨by rfl, ?_⟩) hC0 ?_
  rotate_left
  · intro w hSw; clear hSw; go_simp; (try with_reducible rfl)
  (try simp only [List.getElem_toArray, List.getElem_cons_succ, List.getElem_cons_zero])
  (try simp only [Act.put, List.setIfInBounds_toArray, List.set_cons_zero, List.set_cons_succ])
  refine wpHold_take (i := 15) (v := ?_) rfl (by kernel_rfl) (by kernel_rfl) (by kernel_rfl) (fun _ _ _ h => h) (Or.inl ⟨by rfl, ?_⟩) hC0 ?_
  rotate_left
  · intro w hSw; clear hSw; go_simp; (try with_reducible rfl)
  (try simp only [List.getElem_toArray, List.getElem_cons_succ, List.getElem_cons_zero])
  (try simp only [Act.put, List.setIfInBounds_toArray, List.set_cons_zero, List.set_cons_succ])
  refine wpHold_take (i := 16) (v := ?_) rfl (by kernel_rfl) (by kernel_rfl) (by kernel_rfl) (fun _ _ _ h => h) (Or.inl ⟨by rfl, ?_⟩) hC0 ?_
  rotate_left
  · intro w hSw; clear hSw; go_simp; (try with_reducible rfl)
  (try simp only [List.getElem_toArray, List.getElem_cons_succ, List.getElem_cons_zero])
  (try simp only [Act.put, List.setIfInBounds_toArray, List.set_cons_zero, List.set_cons_succ])
  refine wpHold_take (i := 17) (v := ?_) rfl (by kernel_rfl) (by kernel_rfl) (by kernel_rfl) (fun _ _ _ h => h) (Or.inl ⟨by rfl, ?_⟩) hC0 ?_
  rotate_left
  · intro w hSw; (try dsimp only at hSw); obtain ⟨⟨u0, u1, u2⟩, u3, u4, u5⟩ := hSw; go_simp; (try with_reducible rfl)
  (try simp only [List.getElem_toArray, List.getElem_cons_succ, List.getElem_cons_zero])
  (try simp only [Act.put, List.setIfInBounds_toArray, List.set_cons_zero, List.set_cons_succ])
  refine wpHold_take (i := 18) (v := ?_) rfl (by kernel_rfl) (by kernel_rfl) (by kernel_rfl) (fun _ _ _ h => h) (Or.inl ⟨by rfl, ?_⟩) hC0 ?_
  rotate_left
  · intro w hSw; (try dsimp only at hSw); obtain ⟨⟨u0, u1, u2⟩, u3, u4, u5⟩ := hSw; go_simp; (try with_reducible rfl)
  (try simp only [List.getElem_toArray, List.getElem_cons_succ, List.getElem_cons_zero])
  (try simp only [Act.put, List.setIfInBounds_toArray, List.set_cons_zero, List.set_cons_succ])
  refine wpHold_one (k := 19) (by kernel_rfl) rfl (fun K hK => ?_)
  (try simp only [List.getElem_toArray, List.getElem_cons_succ, List.getElem_cons_zero])
  go_simp
  refine (unhide HLK _ bd0).mono ?_
  rintro e xw_1 ⟨rfl, hb_1⟩
  have cc_1 := below_step bd0 hb_1
  have hC_1 : (fun w' : World => (w'.cell? ⟨gv, N * 3, none⟩ = some (.bool ta.s) ∧ w'.cell? ⟨gv, N * 3 + 1, none⟩ = some (.slice ta.a1 ta.n1 ta.c1) ∧ w'.cell? ⟨gv, N * 3 + 2, none⟩ = some (.slice ta.a2 ta.n2 ta.c2)) ∧ (w'.cell? ⟨bS, 0, none⟩ = some (.bool tS.s) ∧ w'.cell? ⟨bS, 1, none⟩ = some (.slice tS.a1 tS.n1 tS.c1) ∧ w'.cell? ⟨bS, 2, none⟩ = some (.slice tS.a2 tS.n2 tS.c2))) xw_1 := unhide HCC _ cc_1
  refine hK.out _ _ hC_1 ?_
  clear hK K
  (try simp only [Act.put, List.setIfInBounds_toArray, List.set_cons_zero, List.set_cons_succ])
  refine wpHold_take (i := 20) (v := ?_) rfl (by kernel_rfl) (by kernel_rfl) (by kernel_rfl) (fun _ _ _ h => h) (Or.inl ⟨by rfl, ?_⟩) hC_1 ?_
  rotate_left
  · intro w hSw; clear hSw; go_simp; (try with_reducible rfl)
  (try simp only [List.getElem_toArray, List.getElem_cons_succ, List.getElem_cons_zero])
  (try simp only [Act.put, List.setIfInBounds_toArray, List.set_cons_zero, List.set_cons_succ])
  refine wpHold_take (i := 21) (v := ?_) rfl (by kernel_rfl) (by kernel_rfl) (by kernel_rfl) (fun _ _ _ h => h) (Or.inl ⟨by rfl, ?_⟩) hC_1 ?_
  rotate_left
  · intro w hSw; clear hSw; go_simp; (try with_reducible rfl)
  (try simp only [List.getElem_toArray, List.getElem_cons_succ, List.getElem_cons_zero])
  (try simp only [Act.put, List.setIfInBounds_toArray, List.set_cons_zero, List.set_cons_succ])
  refine wpHold_done (by kernel_rfl) ?_ _
  have HB7 := hide cc_1
  clear hC0 hC_1 cc_1 bd0 hb_1 HCC HLK eMM g0 g1
  go_wp2_with fail
  go_loopw [14] (fun vi wr => ∃ i : Nat, vi = .int .i64 (i : Int) ∧ 1 ≤ i ∧ (i ≤ m ∨ i = 1) ∧ Below W6.heap.size W6 wr) (fun vi _ => m - (intOf vi).toNat)
  case atStart => exact ⟨1, rfl, Nat.le_refl _, Or.inr rfl, unhide HB7⟩
  case round =>
    obtain ⟨i, rfl, hi1, hi2, hbl⟩ := hrel
    clear HB7
    have HB7 := hide hbl
    have HROW7 := hide ((unhide HROW6).below (unhide HB7))
    clear hbl
    by_cases hlt : i < m
    · have f1 : (i : Int) < (m : Int) := by omega
      have f0 : (0 : Int) ≤ (i : Int) := by omega
      obtain ⟨i0, hi0⟩ : ∃ i0, i - 1 = i0 := ⟨_, rfl⟩
      have hw0 : IntKind.i64.wrap ((i : Int) - 1) = (i0 : Int) := by rw [IntKind.wrap_i64]; omega
      have f2 : (i0 : Int) < (m : Int) := by omega
      have f3 : (0 : Int) ≤ (i0 : Int) := by omega
      obtain ⟨kb, ko, ek, hkl, kx1, kx0⟩ : ∃ kb ko, ka2 = some ⟨kb, ko, none⟩ ∧ kb < wr.heap.size ∧ wr.cell? ⟨kb, ko + i, none⟩ = some (.int .i64 ((Sea.kpo (pF ks) (aF ks) (kF ks) N (i + 1) : Nat) : Int)) ∧ wr.cell? ⟨kb, ko + i0, none⟩ = some (.int .i64 ((Sea.kpo (pF ks) (aF ks) (kF ks) N (i0 + 1) : Nat) : Int)) := by
        obtain ⟨a', c', e, _, _, h3⟩ := unhide HROW7
        injection e with e1 e2 e3
        obtain ⟨b, o, ea, hlt', hcc⟩ := h3 (by omega)
        exact ⟨b, o, by rw [e1, ea], hlt', hcc i hlt, hcc i0 (by omega)⟩
      have hnest := (unhide HNM).nest i (by rw [unhide HFL]; have := unhide HMM; omega)
      have e01 : i0 + 1 = i := by omega
      rw [e01] at kx0
      obtain ⟨x1, hx1⟩ : ∃ x1, Sea.kpo (pF ks) (aF ks) (kF ks) N (i + 1) = x1 := ⟨_, rfl⟩
      obtain ⟨x0, hx0⟩ : ∃ x0, Sea.kpo (pF ks) (aF ks) (kF ks) N i = x0 := ⟨_, rfl⟩
      rw [hx1] at kx1 hnest
      rw [hx0] at kx0 hnest
      have f4 : decide ((x1 : Int) < (x0 : Int)) = false := decide_eq_false (by omega)
      have f5 : decide (x1 < x0) = false := decide_eq_false (by omega)
      have f6 : ¬ (x1 : Int) < (x0 : Int) := by omega
      have HCC15 : Hid (∀ W, Below wr.heap.size wr W → (fun w' : World => w'.cell? ⟨kb, ko + i, none⟩ = some (.int .i64 (x1 : Int)) ∧ w'.cell? ⟨kb, ko + i0, none⟩ = some (.int .i64 (x0 : Int))) W) := fun W hW => ⟨by rw [hW.cell (p := ⟨kb, ko + i, none⟩) hkl]; exact kx1, by rw [hW.cell (p := ⟨kb, ko + i0, none⟩) hkl]; exact kx0⟩
      subst ek
      clear hnest kx1 kx0 hx1 hx0 hkl e01 hi0
      go_wp2_with fail
      refine wp_region_hold (fun w' : World => w'.cell? ⟨kb, ko + i, none⟩ = some (.int .i64 (x1 : Int)) ∧ w'.cell? ⟨kb, ko + i0, none⟩ = some (.int .i64 (x0 : Int))) (by kernel_rfl) ?_
      have bd0 : Below wr.heap.size wr wr.drew := (Below.refl _ _).drew
      have hC0 : (fun w' : World => w'.cell? ⟨kb, ko + i, none⟩ = some (.int .i64 (x1 : Int)) ∧ w'.cell? ⟨kb, ko + i0, none⟩ = some (.int .i64 (x0 : Int))) wr.drew := unhide HCC15 _ bd0
      refine wpHold_take (i := 0) (v := ?_) rfl (by kernel_rfl) (by kernel_rfl) (by kernel_rfl) (fun _ _ _ h => h) (Or.inl ⟨by rfl, ?_⟩) hC0 ?_
      rotate_left
      · intro w hSw; clear hSw; go_simp; (try with_reducible rfl)
      (try simp only [List.getElem_toArray, List.getElem_cons_succ, List.getElem_cons_zero])
      (try simp only [Act.put, List.setIfInBounds_toArray, List.set_cons_zero, List.set_cons_succ])
      refine wpHold_take (i := 1) (v := ?_) rfl (by kernel_rfl) (by kernel_rfl) (by kernel_rfl) (fun _ _ _ h => h) (Or.inl ⟨by rfl, ?_⟩) hC0 ?_
      rotate_left
      · intro w hSw; clear hSw; go_simp; (try with_reducible rfl)
      (try simp only [List.getElem_toArray, List.getElem_cons_succ, List.getElem_cons_zero])
      (try simp only [Act.put, List.setIfInBounds_toArray, List.set_cons_zero, List.set_cons_succ])
      refine wpHold_take (i := 2) (v := ?_) rfl (by kernel_rfl) (by kernel_rfl) (by kernel_rfl) (fun _ _ _ h => h) (Or.inl ⟨by rfl, ?_⟩) hC0 ?_
      rotate_left
      · intro w hSw; clear hSw; go_simp; (try with_reducible rfl)
      (try simp only [List.getElem_toArray, List.getElem_cons_succ, List.getElem_cons_zero])
      (try simp only [Act.put, List.setIfInBounds_toArray, List.set_cons_zero, List.set_cons_succ])
      refine wpHold_take (i := 3) (v := ?_) rfl (by kernel_rfl) (by kernel_rfl) (by kernel_rfl) (fun _ _ _ h => h) (Or.inl ⟨by rfl, ?_⟩) hC0 ?_
      rotate_left
      · intro w hSw; (try dsimp only at hSw); obtain ⟨u0, u1⟩ := hSw; go_simp; (try with_reducible rfl)
      (try simp only [List.getElem_toArray, List.getElem_cons_succ, List.getElem_cons_zero])
      (try simp only [Act.put, List.setIfInBounds_toArray, List.set_cons_zero, List.set_cons_succ])
      refine wpHold_take (i := 4) (v := ?_) rfl (by kernel_rfl) (by kernel_rfl) (by kernel_rfl) (fun _ _ _ h => h) (Or.inl ⟨by rfl, ?_⟩) hC0 ?_
      rotate_left
      · intro w hSw; clear hSw; go_simp; (try with_reducible rfl)
      (try simp only [List.getElem_toArray, List.getElem_cons_succ, List.getElem_cons_zero])
      (try simp only [Act.put, List.setIfInBounds_toArray, List.set_cons_zero, List.set_cons_succ])
      refine wpHold_take (i := 5) (v := ?_) rfl (by kernel_rfl) (by kernel_rfl) (by kernel_rfl) (fun _ _ _ h => h) (Or.inl ⟨by rfl, ?_⟩) hC0 ?_
      rotate_left
      · intro w hSw; clear hSw; go_simp; (try with_reducible rfl)
      (try simp only [List.getElem_toArray, List.getElem_cons_succ, List.getElem_cons_zero])
      (try simp only [Act.put, List.setIfInBounds_toArray, List.set_cons_zero, List.set_cons_succ])
      refine wpHold_take (i := 6) (v := ?_) rfl (by kernel_rfl) (by kernel_rfl) (by kernel_rfl) (fun _ _ _ h => h) (Or.inl ⟨by rfl, ?_⟩) hC0 ?_
      rotate_left
      · intro w hSw; clear hSw; go_simp; (try with_reducible rfl)
      (try simp only [List.getElem_toArray, List.getElem_cons_succ, List.getElem_cons_zero])
      (try simp only [Act.put, List.setIfInBounds_toArray, List.set_cons_zero, List.set_cons_succ])
      refine wpHold_take (i := 7) (v := ?_) rfl (by kernel_rfl) (by kernel_rfl) (by kernel_rfl) (fun _ _ _ h => h) (Or.inl ⟨by rfl, ?_⟩) hC0 ?_
      rotate_left
      · intro w hSw; clear hSw; go_simp; (try with_reducible rfl)
      (try simp only [List.getElem_toArray, List.getElem_cons_succ, List.getElem_cons_zero])
      (try simp only [Act.put, List.setIfInBounds_toArray, List.set_cons_zero, List.set_cons_succ])
      refine wpHold_take (i := 8) (v := ?_) rfl (by kernel_rfl) (by kernel_rfl) (by kernel_rfl) (fun _ _ _ h => h) (Or.inl ⟨by rfl, ?_⟩) hC0 ?_
      rotate_left
      · intro w hSw; (try dsimp only at hSw); obtain ⟨u0, u1⟩ := hSw; go_simp; (try with_reducible rfl)
      (try simp only [List.getElem_toArray, List.getElem_cons_succ, List.getElem_cons_zero])
      (try simp only [Act.put, List.setIfInBounds_toArray, List.set_cons_zero, List.set_cons_succ])
      refine wpHold_take (i := 9) (v := ?_) rfl (by kernel_rfl) (by kernel_rfl) (by kernel_rfl) (fun _ _ _ h => h) (Or.inl ⟨by rfl, ?_⟩) hC0 ?_
      rotate_left
      · intro w hSw; clear hSw; go_simp; (try with_reducible rfl)
      (try simp only [List.getElem_toArray, List.getElem_cons_succ, List.getElem_cons_zero])
      (try simp only [Act.put, List.setIfInBounds_toArray, List.set_cons_zero, List.set_cons_succ])
      refine wpHold_done (by kernel_rfl) ?_ _
      clear hC0
      have HBR := hide (below_step (unhide HB7) bd0)
      clear bd0 HCC15
      go_wp2_with fail
      exact ⟨⟨i + 1, by go_num, by omega, Or.inl hlt, unhide HBR⟩, by simp [intOf]; omega⟩
    · have f1 : ¬ (i : Int) < (m : Int) := by omega
      clear hi1 hi2
      have hM20 : M ≤ 20 := by have := unhide HM1; omega
      obtain ⟨W7, rfl⟩ : ∃ W, W = wr := ⟨_, rfl⟩
      go_wp2_with fail
      go_loopw [15] (fun vi wv => ∃ i : Nat, vi = .int .i64 (i : Int) ∧ 2 ≤ i ∧ Below W6.heap.size W6 wv) (fun vi _ => M - (intOf vi).toNat)
      case atStart => exact ⟨2, rfl, Nat.le_refl _, unhide HB7⟩
      case round =>
        obtain ⟨i, rfl, hi, hb⟩ := hrel
        obtain ⟨wv, rfl⟩ : ∃ W, W = wr := ⟨_, rfl⟩
        have HBW := hide hb
        clear hb
        by_cases hlt : i < M
        · have e1 : (i : Int) < (M : Int) := by omega
          have e0 : (0 : Int) ≤ (i : Int) := by omega
          obtain ⟨i1, hi1⟩ : ∃ i1, i - 1 = i1 := ⟨_, rfl⟩
          obtain ⟨i2, hi2⟩ : ∃ i2, i - 2 = i2 := ⟨_, rfl⟩
          have hw1 : IntKind.i64.wrap ((i : Int) - 1) = (i1 : Int) := by rw [IntKind.wrap_i64]; omega
          have hw2 : IntKind.i64.wrap ((i : Int) - 2) = (i2 : Int) := by rw [IntKind.wrap_i64]; omega
          have e2 : (i1 : Int) < (M : Int) := by omega
          have e3 : (0 : Int) ≤ (i1 : Int) := by omega
          have e4 : (i2 : Int) < (M : Int) := by omega
          have e5 : (0 : Int) ≤ (i2 : Int) := by omega
          obtain ⟨ta, qa0, qa1, qa2, ra⟩ := unhide Hba i hlt
          obtain ⟨tb, qb0, qb1, qb2, rb⟩ := unhide Hba i1 (by omega)
          obtain ⟨tc, qc0, qc1, qc2, rc⟩ := unhide Hba i2 (by omega)
          rw [row_get hlt] at ra
          rw [row_get (by omega)] at rb rc
          have HTA := hide (ra.below (unhide HBW))
          have HTB := hide (rb.below (unhide HBW))
          have HTC := hide (rc.below (unhide HBW))
          have HCC20 : Hid (∀ W, Below wv.heap.size wv W → (fun w' : World => (w'.cell? ⟨gv, i * 3, none⟩ = some (.bool ta.s) ∧ w'.cell? ⟨gv, i * 3 + 1, none⟩ = some (.slice ta.a1 ta.n1 ta.c1) ∧ w'.cell? ⟨gv, i * 3 + 2, none⟩ = some (.slice ta.a2 ta.n2 ta.c2)) ∧ (w'.cell? ⟨gv, i1 * 3, none⟩ = some (.bool tb.s) ∧ w'.cell? ⟨gv, i1 * 3 + 1, none⟩ = some (.slice tb.a1 tb.n1 tb.c1) ∧ w'.cell? ⟨gv, i1 * 3 + 2, none⟩ = some (.slice tb.a2 tb.n2 tb.c2)) ∧ (w'.cell? ⟨gv, i2 * 3, none⟩ = some (.bool tc.s) ∧ w'.cell? ⟨gv, i2 * 3 + 1, none⟩ = some (.slice tc.a1 tc.n1 tc.c1) ∧ w'.cell? ⟨gv, i2 * 3 + 2, none⟩ = some (.slice tc.a2 tc.n2 tc.c2))) W) := fun W hW => by
            have h2 := below_step (unhide HBW) hW
            refine ⟨⟨?_, ?_, ?_⟩, ⟨?_, ?_, ?_⟩, ?_, ?_, ?_⟩
            · rw [h2.cell (p := ⟨gv, i * 3, none⟩) (unhide HLB)]; exact qa0
            · rw [h2.cell (p := ⟨gv, i * 3 + 1, none⟩) (unhide HLB)]; exact qa1
            · rw [h2.cell (p := ⟨gv, i * 3 + 2, none⟩) (unhide HLB)]; exact qa2
            · rw [h2.cell (p := ⟨gv, i1 * 3, none⟩) (unhide HLB)]; exact qb0
            · rw [h2.cell (p := ⟨gv, i1 * 3 + 1, none⟩) (unhide HLB)]; exact qb1
            · rw [h2.cell (p := ⟨gv, i1 * 3 + 2, none⟩) (unhide HLB)]; exact qb2
            · rw [h2.cell (p := ⟨gv, i2 * 3, none⟩) (unhide HLB)]; exact qc0
            · rw [h2.cell (p := ⟨gv, i2 * 3 + 1, none⟩) (unhide HLB)]; exact qc1
            · rw [h2.cell (p := ⟨gv, i2 * 3 + 2, none⟩) (unhide HLB)]; exact qc2
          have HRA := hide (unhide HRV i hlt)
          have HRB := hide (unhide HRV i1 (by omega))
          have HRC := hide (unhide HRV i2 (by omega))
          have HRD1 := hide (((unhide HRV i hlt).sub' (unhide HRV i1 (by omega))).mono (show 100000 + 100000 + 1 ≤ 300000 by omega))
          have HRD2 := hide (((unhide HRV i1 (by omega)).sub' (unhide HRV i2 (by omega))).mono (show 100000 + 100000 + 1 ≤ 300000 by omega))
          have HKJ : Hid (100000 + 100000 + 1 ≤ KK) := by show _ ≤ _; rw [KKe]; omega
          have HKD : Hid (300000 ≤ KK) := by show _ ≤ _; rw [KKe]; omega
          obtain ⟨cv, hcv⟩ : ∃ x, cmpv (V i - V i1) (V i1 - V i2) = x := ⟨_, rfl⟩
          have hcv0 : cv ≤ 0 := by
            rw [← hcv]
            refine sub_cc ?_
            have h1 := (unhide HNM).cc i2 (by have := unhide HM1; omega)
            rw [unhide HFL, unhide HVV, show i2 + 2 = i by omega, show i2 + 1 = i1 by omega] at h1
            exact h1
          have hcvd : decide (0 < cv) = false := decide_eq_false (by omega)
          have HCV : Hid (cmpv (V i - V i1) (V i1 - V i2) = cv) := hcv
          clear qa0 qa1 qa2 qb0 qb1 qb2 qc0 qc1 qc2 ra rb rc hcv hcv0 hi1 hi2
          go_wp2_with fail
          refine wp_region_hold (fun w' : World => (w'.cell? ⟨gv, i * 3, none⟩ = some (.bool ta.s) ∧ w'.cell? ⟨gv, i * 3 + 1, none⟩ = some (.slice ta.a1 ta.n1 ta.c1) ∧ w'.cell? ⟨gv, i * 3 + 2, none⟩ = some (.slice ta.a2 ta.n2 ta.c2)) ∧ (w'.cell? ⟨gv, i1 * 3, none⟩ = some (.bool tb.s) ∧ w'.cell? ⟨gv, i1 * 3 + 1, none⟩ = some (.slice tb.a1 tb.n1 tb.c1) ∧ w'.cell? ⟨gv, i1 * 3 + 2, none⟩ = some (.slice tb.a2 tb.n2 tb.c2)) ∧ (w'.cell? ⟨gv, i2 * 3, none⟩ = some (.bool tc.s) ∧ w'.cell? ⟨gv, i2 * 3 + 1, none⟩ = some (.slice tc.a1 tc.n1 tc.c1) ∧ w'.cell? ⟨gv, i2 * 3 + 2, none⟩ = some (.slice tc.a2 tc.n2 tc.c2))) (by kernel_rfl) ?_
          have bd0 : Below wv.heap.size wv wv.drew := (Below.refl _ _).drew
          have hC0 : (fun w' : World => (w'.cell? ⟨gv, i * 3, none⟩ = some (.bool ta.s) ∧ w'.cell? ⟨gv, i * 3 + 1, none⟩ = some (.slice ta.a1 ta.n1 ta.c1) ∧ w'.cell? ⟨gv, i * 3 + 2, none⟩ = some (.slice ta.a2 ta.n2 ta.c2)) ∧ (w'.cell? ⟨gv, i1 * 3, none⟩ = some (.bool tb.s) ∧ w'.cell? ⟨gv, i1 * 3 + 1, none⟩ = some (.slice tb.a1 tb.n1 tb.c1) ∧ w'.cell? ⟨gv, i1 * 3 + 2, none⟩ = some (.slice tb.a2 tb.n2 tb.c2)) ∧ (w'.cell? ⟨gv, i2 * 3, none⟩ = some (.bool tc.s) ∧ w'.cell? ⟨gv, i2 * 3 + 1, none⟩ = some (.slice tc.a1 tc.n1 tc.c1) ∧ w'.cell? ⟨gv, i2 * 3 + 2, none⟩ = some (.slice tc.a2 tc.n2 tc.c2))) wv.drew := unhide HCC20 _ bd0
          refine wpHold_take (i := 0) (v := ?_) rfl (by kernel_rfl) (by kernel_rfl) (by kernel_rfl) (fun _ _ _ h => h) (Or.inl ⟨by rfl, ?_⟩) hC0 ?_
          rotate_left
          · intro w hSw; clear hSw; go_simp; (try with_reducible rfl)
          (try simp only [List.getElem_toArray, List.getElem_cons_succ, List.getElem_cons_zero])
          (try simp only [Act.put, List.setIfInBounds_toArray, List.set_cons_zero, List.set_cons_succ])
          refine wpHold_take (i := 1) (v := ?_) rfl (by kernel_rfl) (by kernel_rfl) (by kernel_rfl) (fun _ _ _ h => h) (Or.inl ⟨by rfl, ?_⟩) hC0 ?_
          rotate_left
          · intro w hSw; clear hSw; go_simp; (try with_reducible rfl)
          (try simp only [List.getElem_toArray, List.getElem_cons_succ, List.getElem_cons_zero])
          (try simp only [Act.put, List.setIfInBounds_toArray, List.set_cons_zero, List.set_cons_succ])
          refine wpHold_take (i := 2) (v := ?_) rfl (by kernel_rfl) (by kernel_rfl) (by kernel_rfl) (fun _ _ _ h => h) (Or.inl ⟨by rfl, ?_⟩) hC0 ?_
          rotate_left
          · intro w hSw; clear hSw; go_simp; (try with_reducible rfl)
          (try simp only [List.getElem_toArray, List.getElem_cons_succ, List.getElem_cons_zero])
          (try simp only [Act.put, List.setIfInBounds_toArray, List.set_cons_zero, List.set_cons_succ])
          refine wpHold_take (i := 3) (v := ?_) rfl (by kernel_rfl) (by kernel_rfl) (by kernel_rfl) (fun _ _ _ h => h) (Or.inl ⟨by rfl, ?_⟩) hC0 ?_
          rotate_left
          · intro w hSw; (try dsimp only at hSw); obtain ⟨⟨u0, u1, u2⟩, ⟨u3, u4, u5⟩, ⟨u6, u7, u8⟩⟩ := hSw; go_simp; (try with_reducible rfl)
          (try simp only [List.getElem_toArray, List.getElem_cons_succ, List.getElem_cons_zero])
          (try simp only [Act.put, List.setIfInBounds_toArray, List.set_cons_zero, List.set_cons_succ])
          refine wpHold_take (i := 4) (v := ?_) rfl (by kernel_rfl) (by kernel_rfl) (by kernel_rfl) (fun _ _ _ h => h) (Or.inl ⟨by rfl, ?_⟩) hC0 ?_
          rotate_left
          · intro w hSw; clear hSw; go_simp; (try with_reducible rfl)
          (try simp only [List.getElem_toArray, List.getElem_cons_succ, List.getElem_cons_zero])
          (try simp only [Act.put, List.setIfInBounds_toArray, List.set_cons_zero, List.set_cons_succ])
          refine wpHold_take (i := 5) (v := ?_) rfl (by kernel_rfl) (by kernel_rfl) (by kernel_rfl) (fun _ _ _ h => h) (Or.inl ⟨by rfl, ?_⟩) hC0 ?_
          rotate_left
          · intro w hSw; clear hSw; go_simp; (try with_reducible rfl)
          (try simp only [List.getElem_toArray, List.getElem_cons_succ, List.getElem_cons_zero])
          (try simp only [Act.put, List.setIfInBounds_toArray, List.set_cons_zero, List.set_cons_succ])
          refine wpHold_take (i := 6) (v := ?_) rfl (by kernel_rfl) (by kernel_rfl) (by kernel_rfl) (fun _ _ _ h => h) (Or.inl ⟨by rfl, ?_⟩) hC0 ?_
          rotate_left
          · intro w hSw; clear hSw; go_simp; (try with_reducible rfl)
          (try simp only [List.getElem_toArray, List.getElem_cons_succ, List.getElem_cons_zero])
          (try simp only [Act.put, List.setIfInBounds_toArray, List.set_cons_zero, List.set_cons_succ])
          refine wpHold_take (i := 7) (v := ?_) rfl (by kernel_rfl) (by kernel_rfl) (by kernel_rfl) (fun _ _ _ h => h) (Or.inl ⟨by rfl, ?_⟩) hC0 ?_
          rotate_left
          · intro w hSw; clear hSw; go_simp; (try with_reducible rfl)
          (try simp only [List.getElem_toArray, List.getElem_cons_succ, List.getElem_cons_zero])
          (try simp only [Act.put, List.setIfInBounds_toArray, List.set_cons_zero, List.set_cons_succ])
          refine wpHold_take (i := 8) (v := ?_) rfl (by kernel_rfl) (by kernel_rfl) (by kernel_rfl) (fun _ _ _ h => h) (Or.inl ⟨by rfl, ?_⟩) hC0 ?_
          rotate_left
          · intro w hSw; (try dsimp only at hSw); obtain ⟨⟨u0, u1, u2⟩, ⟨u3, u4, u5⟩, ⟨u6, u7, u8⟩⟩ := hSw; go_simp; (try with_reducible rfl)
          (try simp only [List.getElem_toArray, List.getElem_cons_succ, List.getElem_cons_zero])
          (try simp only [Act.put, List.setIfInBounds_toArray, List.set_cons_zero, List.set_cons_succ])
          refine wpHold_take (i := 10) (v := ?_) rfl (by kernel_rfl) (by kernel_rfl) (by kernel_rfl) (fun _ _ _ h => h) (Or.inl ⟨by rfl, ?_⟩) hC0 ?_
          rotate_left
          · intro w hSw; clear hSw; go_simp; (try with_reducible rfl)
          (try simp only [List.getElem_toArray, List.getElem_cons_succ, List.getElem_cons_zero])
          (try simp only [Act.put, List.setIfInBounds_toArray, List.set_cons_zero, List.set_cons_succ])
          refine wpHold_take (i := 11) (v := ?_) rfl (by kernel_rfl) (by kernel_rfl) (by kernel_rfl) (fun _ _ _ h => h) (Or.inl ⟨by rfl, ?_⟩) hC0 ?_
          rotate_left
          · intro w hSw; clear hSw; go_simp; (try with_reducible rfl)
          (try simp only [List.getElem_toArray, List.getElem_cons_succ, List.getElem_cons_zero])
          (try simp only [Act.put, List.setIfInBounds_toArray, List.set_cons_zero, List.set_cons_succ])
          refine wpHold_take (i := 12) (v := ?_) rfl (by kernel_rfl) (by kernel_rfl) (by kernel_rfl) (fun _ _ _ h => h) (Or.inl ⟨by rfl, ?_⟩) hC0 ?_
          rotate_left
          · intro w hSw; clear hSw; go_simp; (try with_reducible rfl)
          (try simp only [List.getElem_toArray, List.getElem_cons_succ, List.getElem_cons_zero])
          (try simp only [Act.put, List.setIfInBounds_toArray, List.set_cons_zero, List.set_cons_succ])
          refine wpHold_take (i := 13) (v := ?_) rfl (by kernel_rfl) (by kernel_rfl) (by kernel_rfl) (fun _ _ _ h => h) (Or.inl ⟨by rfl, ?_⟩) hC0 ?_
          rotate_left
          · intro w hSw; clear hSw; go_simp; (try with_reducible rfl)
          (try simp only [List.getElem_toArray, List.getElem_cons_succ, List.getElem_cons_zero])
          (try simp only [Act.put, List.setIfInBounds_toArray, List.set_cons_zero, List.set_cons_succ])
          refine wpHold_take (i := 14) (v := ?_) rfl (by kernel_rfl) (by kernel_rfl) (by kernel_rfl) (fun _ _ _ h => h) (Or.inl ⟨by rfl, ?_⟩) hC0 ?_
          rotate_left
          · intro w hSw; (try dsimp only at hSw); obtain ⟨⟨u0, u1, u2⟩, ⟨u3, u4, u5⟩, ⟨u6, u7, u8⟩⟩ := hSw; go_simp; (try with_reducible rfl)
          (try simp only [List.getElem_toArray, List.getElem_cons_succ, List.getElem_cons_zero])
          (try simp only [Act.put, List.setIfInBounds_toArray, List.set_cons_zero, List.set_cons_succ])
          refine wpHold_take (i := 15) (v := ?_) rfl (by kernel_rfl) (by kernel_rfl) (by kernel_rfl) (fun _ _ _ h => h) (Or.inl ⟨by rfl, ?_⟩) hC0 ?_
          rotate_left
          · intro w hSw; clear hSw; go_simp; (try with_reducible rfl)
          (try simp only [List.getElem_toArray, List.getElem_cons_succ, List.getElem_cons_zero])
          (try simp only [Act.put, List.setIfInBounds_toArray, List.set_cons_zero, List.set_cons_succ])
          refine wpHold_take (i := 16) (v := ?_) rfl (by kernel_rfl) (by kernel_rfl) (by kernel_rfl) (fun _ _ _ h => h) (Or.inl ⟨by rfl, ?_⟩) hC0 ?_
          rotate_left
          · intro w hSw; clear hSw; go_simp; (try with_reducible rfl)
          (try simp only [List.getElem_toArray, List.getElem_cons_succ, List.getElem_cons_zero])
          (try simp only [Act.put, List.setIfInBounds_toArray, List.set_cons_zero, List.set_cons_succ])
          refine wpHold_take (i := 17) (v := ?_) rfl (by kernel_rfl) (by kernel_rfl) (by kernel_rfl) (fun _ _ _ h => h) (Or.inl ⟨by rfl, ?_⟩) hC0 ?_
          rotate_left
          · intro w hSw; clear hSw; go_simp; (try with_reducible rfl)
          (try simp only [List.getElem_toArray, List.getElem_cons_succ, List.getElem_cons_zero])
          (try simp only [Act.put, List.setIfInBounds_toArray, List.set_cons_zero, List.set_cons_succ])
          refine wpHold_take (i := 18) (v := ?_) rfl (by kernel_rfl) (by kernel_rfl) (by kernel_rfl) (fun _ _ _ h => h) (Or.inl ⟨by rfl, ?_⟩) hC0 ?_
          rotate_left
          · intro w hSw; clear hSw; go_simp; (try with_reducible rfl)
          (try simp only [List.getElem_toArray, List.getElem_cons_succ, List.getElem_cons_zero])
          (try simp only [Act.put, List.setIfInBounds_toArray, List.set_cons_zero, List.set_cons_succ])
          refine wpHold_take (i := 19) (v := ?_) rfl (by kernel_rfl) (by kernel_rfl) (by kernel_rfl) (fun _ _ _ h => h) (Or.inl ⟨by rfl, ?_⟩) hC0 ?_
          rotate_left
          · intro w hSw; (try dsimp only at hSw); obtain ⟨⟨u0, u1, u2⟩, ⟨u3, u4, u5⟩, ⟨u6, u7, u8⟩⟩ := hSw; go_simp; (try with_reducible rfl)
          (try simp only [List.getElem_toArray, List.getElem_cons_succ, List.getElem_cons_zero])
          (try simp only [Act.put, List.setIfInBounds_toArray, List.set_cons_zero, List.set_cons_succ])
          refine wpHold_one (k := 9) (by kernel_rfl) rfl (fun K hK => ?_)
          (try simp only [List.getElem_toArray, List.getElem_cons_succ, List.getElem_cons_zero])
          go_simp
          refine (subR_any ta.val tb.val _ _ _ ((unhide HTA).below bd0) ((unhide HTB).below bd0) 100000 (unhide HRA) (unhide HRB) (unhide HKJ)).mono ?_
          rintro e xw_1 ⟨xv_1, rfl, hv_1, hb_1⟩
          have cc_1 := below_step bd0 hb_1
          have hC_1 : (fun w' : World => (w'.cell? ⟨gv, i * 3, none⟩ = some (.bool ta.s) ∧ w'.cell? ⟨gv, i * 3 + 1, none⟩ = some (.slice ta.a1 ta.n1 ta.c1) ∧ w'.cell? ⟨gv, i * 3 + 2, none⟩ = some (.slice ta.a2 ta.n2 ta.c2)) ∧ (w'.cell? ⟨gv, i1 * 3, none⟩ = some (.bool tb.s) ∧ w'.cell? ⟨gv, i1 * 3 + 1, none⟩ = some (.slice tb.a1 tb.n1 tb.c1) ∧ w'.cell? ⟨gv, i1 * 3 + 2, none⟩ = some (.slice tb.a2 tb.n2 tb.c2)) ∧ (w'.cell? ⟨gv, i2 * 3, none⟩ = some (.bool tc.s) ∧ w'.cell? ⟨gv, i2 * 3 + 1, none⟩ = some (.slice tc.a1 tc.n1 tc.c1) ∧ w'.cell? ⟨gv, i2 * 3 + 2, none⟩ = some (.slice tc.a2 tc.n2 tc.c2))) xw_1 := unhide HCC20 _ cc_1
          refine hK.out _ _ hC_1 ?_
          clear hK K
          (try simp only [Act.put, List.setIfInBounds_toArray, List.set_cons_zero, List.set_cons_succ])
          refine wpHold_one (k := 20) (by kernel_rfl) rfl (fun K hK => ?_)
          (try simp only [List.getElem_toArray, List.getElem_cons_succ, List.getElem_cons_zero])
          go_simp
          refine (subR_any tb.val tc.val _ _ _ ((unhide HTB).below cc_1) ((unhide HTC).below cc_1) 100000 (unhide HRB) (unhide HRC) (unhide HKJ)).mono ?_
          rintro e xw_2 ⟨xv_2, rfl, hv_2, hb_2⟩
          have cc_2 := below_step cc_1 hb_2
          have hC_2 : (fun w' : World => (w'.cell? ⟨gv, i * 3, none⟩ = some (.bool ta.s) ∧ w'.cell? ⟨gv, i * 3 + 1, none⟩ = some (.slice ta.a1 ta.n1 ta.c1) ∧ w'.cell? ⟨gv, i * 3 + 2, none⟩ = some (.slice ta.a2 ta.n2 ta.c2)) ∧ (w'.cell? ⟨gv, i1 * 3, none⟩ = some (.bool tb.s) ∧ w'.cell? ⟨gv, i1 * 3 + 1, none⟩ = some (.slice tb.a1 tb.n1 tb.c1) ∧ w'.cell? ⟨gv, i1 * 3 + 2, none⟩ = some (.slice tb.a2 tb.n2 tb.c2)) ∧ (w'.cell? ⟨gv, i2 * 3, none⟩ = some (.bool tc.s) ∧ w'.cell? ⟨gv, i2 * 3 + 1, none⟩ = some (.slice tc.a1 tc.n1 tc.c1) ∧ w'.cell? ⟨gv, i2 * 3 + 2, none⟩ = some (.slice tc.a2 tc.n2 tc.c2))) xw_2 := unhide HCC20 _ cc_2
          refine hK.out _ _ hC_2 ?_
          clear hK K
          (try simp only [Act.put, List.setIfInBounds_toArray, List.set_cons_zero, List.set_cons_succ])
          refine wpHold_one (k := 21) (by kernel_rfl) rfl (fun K hK => ?_)
          (try simp only [List.getElem_toArray, List.getElem_cons_succ, List.getElem_cons_zero])
          go_simp
          refine (cmpR_all xv_1 xv_2 _ _ _ (hv_1.below hb_2) hv_2 300000 (unhide HRD1) (unhide HRD2) (unhide HKD)).mono ?_
          rintro e xw_3 ⟨rfl, hb_3⟩
          have cc_3 := below_step cc_2 hb_3
          have hC_3 : (fun w' : World => (w'.cell? ⟨gv, i * 3, none⟩ = some (.bool ta.s) ∧ w'.cell? ⟨gv, i * 3 + 1, none⟩ = some (.slice ta.a1 ta.n1 ta.c1) ∧ w'.cell? ⟨gv, i * 3 + 2, none⟩ = some (.slice ta.a2 ta.n2 ta.c2)) ∧ (w'.cell? ⟨gv, i1 * 3, none⟩ = some (.bool tb.s) ∧ w'.cell? ⟨gv, i1 * 3 + 1, none⟩ = some (.slice tb.a1 tb.n1 tb.c1) ∧ w'.cell? ⟨gv, i1 * 3 + 2, none⟩ = some (.slice tb.a2 tb.n2 tb.c2)) ∧ (w'.cell? ⟨gv, i2 * 3, none⟩ = some (.bool tc.s) ∧ w'.cell? ⟨gv, i2 * 3 + 1, none⟩ = some (.slice tc.a1 tc.n1 tc.c1) ∧ w'.cell? ⟨gv, i2 * 3 + 2, none⟩ = some (.slice tc.a2 tc.n2 tc.c2))) xw_3 := unhide HCC20 _ cc_3
          refine hK.out _ _ hC_3 ?_
          clear hK K
          (try simp only [Act.put, List.setIfInBounds_toArray, List.set_cons_zero, List.set_cons_succ])
          (try rw [unhide HCV])
          refine wpHold_take (i := 22) (v := ?_) rfl (by kernel_rfl) (by kernel_rfl) (by kernel_rfl) (fun _ _ _ h => h) (Or.inl ⟨by rfl, ?_⟩) hC_3 ?_
          rotate_left
          · intro w hSw; clear hSw; go_simp; (try with_reducible rfl)
          (try simp only [List.getElem_toArray, List.getElem_cons_succ, List.getElem_cons_zero])
          (try simp only [Act.put, List.setIfInBounds_toArray, List.set_cons_zero, List.set_cons_succ])
          refine wpHold_done (by kernel_rfl) ?_ _
          have HBZ := hide (below_step (unhide HBW) cc_3)
          clear hC0 hC_1 hC_2 hC_3 cc_1 cc_2 cc_3 bd0 hb_1 hb_2 hb_3 hv_1 hv_2 HCC20 HTA HTB HTC
          go_wp2_with fail
          exact ⟨⟨i + 1, by go_num, by omega, unhide HBZ⟩, by simp [intOf]; omega⟩
        · have e1 : ¬ (i : Int) < (M : Int) := by omega
          have hwn : IntKind.i64.wrap ((n : Int) - 1) = (m : Int) := by rw [IntKind.wrap_i64]; have := unhide HMM; omega
          have qm := make_ints m (by have := unhide HMM; omega) wv
          have hO := make_own wv m
          have bO := alloc_below wv (.cells (lrow (fun _ => 0) m).toArray 3)
          obtain ⟨W9, hW9⟩ : ∃ W, wv.alloc (.cells (lrow (fun _ => 0) m).toArray 3) = W := ⟨_, rfl⟩
          obtain ⟨G, hG⟩ : ∃ G, wv.heap.size = G := ⟨_, rfl⟩
          rw [hW9] at qm hO bO
          rw [hG] at qm hO
          have HO := hide hO
          have HBO := hide (below_step (unhide HBW) bO)
          have HGV : Hid (wv.heap.size ≤ G) := by show _ ≤ _; omega
          have HBOv := hide bO
          clear hO bO
          go_wp2_with fail
          clear qm hW9 hG hwn
          go_loopw [17] (fun vi wu => ∃ (i : Nat) (of : Nat → Nat), vi = .int .i64 (i : Int) ∧ i ≤ m ∧ Hid (∀ j, of j ≤ 1000) ∧ OwnI wu G m (fun j => ((of j : Nat) : Int)) ∧ Below wv.heap.size wv wu) (fun vi _ => m - (intOf vi).toNat)
          case atStart => exact ⟨0, fun _ => 0, rfl, Nat.zero_le _, fun _ => Nat.zero_le _, unhide HO, unhide HBOv⟩
          case round =>
            obtain ⟨i, of, rfl, hi, hof, hO, hb⟩ := hrel
            obtain ⟨wu, rfl⟩ : ∃ W, W = wr := ⟨_, rfl⟩
            have HOF : Hid (∀ j, of j ≤ 1000) := hof
            have HO := hide hO
            have HBU := hide hb
            clear hof hO hb
            by_cases hlt : i < m ∧ i < nk
            · obtain ⟨hl1, hl2⟩ := hlt
              have e2 : (i : Int) < (m : Int) := by omega
              have e3 : (i : Int) < (nk : Int) := by omega
              have e4 : (0 : Int) ≤ (i : Int) := by omega
              obtain ⟨kb, ko, ek, hkl, kx⟩ : ∃ kb ko, ka = some ⟨kb, ko, none⟩ ∧ kb < w.heap.size ∧ w.cell? ⟨kb, ko + i, none⟩ = some (.int .i64 (fk i)) := by
                obtain ⟨a', c', e, _, _, h3⟩ := unhide HK
                injection e with e1 e2 e3
                obtain ⟨b, o, ea, hlt', hcc⟩ := h3 (by omega)
                exact ⟨b, o, by rw [e1, ea], hlt', hcc i hl2⟩
              have HBall := hide (below_step (unhide HB6) (below_step (unhide HBW) (unhide HBU)))
              have kx' : wu.cell? ⟨kb, ko + i, none⟩ = some (.int .i64 (fk i)) := by rw [(unhide HBall).cell (p := ⟨kb, ko + i, none⟩) hkl]; exact kx
              subst ek
              obtain ⟨y, hy⟩ : ∃ y, fk i = y := ⟨_, rfl⟩
              rw [hy] at kx'
              obtain ⟨N2, hN2⟩ : ∃ N2, N + 2 = N2 := ⟨_, rfl⟩
              have hw2 : IntKind.i64.wrap ((N : Int) + 2) = (N2 : Int) := by rw [IntKind.wrap_i64]; omega
              have HPK := hide (pick_any y N2 (by omega) (by omega) wu)
              have HNN : Hid (N2 ≤ 12) := by show _ ≤ _; omega
              clear kx hy hkl hN2
              go_wp2_with fail
              clear kx'
              refine (unhide HPK).mono ?_
              rintro e wu2 ⟨z, rfl, hz, rfl⟩
              have y0 := (unhide HO).cell hl1
              have y1 := (unhide HO).free i
              have NO := (unhide HO).set i ((z : Nat) : Int)
              have NO2 := NO.congr (g := fun j => (((if j = i then z else of j) : Nat) : Int)) (fun j _ => by unfold updI; by_cases e : j = i <;> simp [e])
              have NB := (unhide HBU).setCell (p := ⟨G, i, none⟩) (unhide HGV) (.int .i64 ((z : Nat) : Int))
              have HZ2 : Hid (∀ j, (if j = i then z else of j) ≤ 1000) := fun j => by
                have := unhide HNN
                by_cases e : j = i
                · rw [if_pos e]; omega
                · rw [if_neg e]; exact unhide HOF j
              have HNO := hide NO2
              have HNB := hide NB
              clear NO NO2 NB hz HPK
              go_wp2_with fail
              exact ⟨⟨i + 1, _, by go_num, hl1, unhide HZ2, unhide HNO, unhide HNB⟩, by simp [intOf]; omega⟩
            · have HBall := hide (below_step (unhide HBW) (unhide HBU))
              have HVu := hide ((unhide HV6).below (unhide HBall))
              have HNR := hide ((unhide HO).nrow (by have := unhide HMM; omega))
              have HSE2 := hide (sell_any (.slice fa n fc) (.slice (some ⟨G, 0, none⟩) m m) ks N of wu (unhide HVu) (unhide HSM) (unhide HZ) (by omega) (by rw [unhide HFL, unhide HM0]; exact unhide HNR) (fun j _ => unhide HOF j))
              have hbest := (unhide HNM).best of
              rw [unhide HFL] at HSE2 hbest
              obtain ⟨q2, hq2⟩ : ∃ q2, Sea.se (pF ks) (aF ks) (kF ks) (lim of) n N = q2 := ⟨_, rfl⟩
              have HRQ : Hid (RS q2 100000) := by
                show RS q2 100000
                rw [← hq2]
                exact (se_RS (unhide HSM) (unhide HG) (lim of) N n (by rw [unhide HFL]; exact Nat.le_refl _) N (Nat.le_refl _)).mono (wz_le hn4)
              rw [hq2] at HSE2 hbest
              rw [unhide HVV] at hbest
              have hcle := (cmpv_le hbest).2
              obtain ⟨cv, hcv⟩ : ∃ x, cmpv q2 (V N) = x := ⟨_, rfl⟩
              rw [hcv] at hcle
              have HCV := hide hcv
              have hcd : decide (cv ≤ 0) = true := decide_eq_true hcle
              clear hbest hq2 hcv
              have hfin : ∀ (P : Prop), P → P := fun _ h => h
              by_cases hm : i < m
              case' pos =>
                have e2 : (i : Int) < (m : Int) := by omega
                have e3 : ¬ (i : Int) < (nk : Int) := fun h => hlt ⟨hm, by omega⟩
              case' neg =>
                have e2 : ¬ (i : Int) < (m : Int) := by omega
              all_goals (
                clear hfin hlt hm
                go_wp2_with fail
                refine (unhide HSE2).mono ?_
                rintro e wx ⟨tT, rfl, hrT, hbx⟩
                simp only [Tri.val]
                have bx := below_step hbx (alloc_below wx (.cells #[.bool tT.s, .slice tT.a1 tT.n1 tT.c1, .slice tT.a2 tT.n2 tT.c2] 39))
                have XT := BoxIs.new hrT
                obtain ⟨WX, hWX⟩ : ∃ W, wx.alloc (.cells #[.bool tT.s, .slice tT.a1 tT.n1 tT.c1, .slice tT.a2 tT.n2 tT.c2] 39) = W := ⟨_, rfl⟩
                obtain ⟨bT, hbT⟩ : ∃ b, wx.heap.size = b := ⟨_, rfl⟩
                rw [hWX] at bx XT
                rw [hbT] at XT
                have HBX := hide (below_step (unhide HBall) bx)
                have HXT := hide XT
                have HXS2 := hide ((unhide HXS).keep (unhide HBX))
                have ⟨x0, x1, x2⟩ := (unhide HXT).cells _ (Below.refl _ _)
                have ⟨x3, x4, x5⟩ := (unhide HXS2).cells _ (Below.refl _ _)
                have HCM := hide (cmpR_all tT.val tS.val _ _ WX (unhide HXT).2 (unhide HXS2).2 100000 (unhide HRQ) (unhide HRV N (by have := unhide HM1; omega)) (by rw [KKe]; omega))
                rw [unhide HCV] at HCM
                clear hrT hbx bx XT HSE2
                go_wp2_with fail
                clear hWX hbT x0 x1 x2 x3 x4 x5
                refine (unhide HCM).mono ?_
                rintro e wy ⟨rfl, hby⟩
                have HBF := hide (below_step (unhide HB6) (below_step (unhide HBX) hby))
                clear hby HCM
                go_wp2
                go_ret
                exact ⟨rfl, unhide HBF⟩)
end Go.Proofs.YtfnbjenneodcdaaDoor
