/- The document's NeedCheck and LotsCost; what answers are held against. -/
import Derived.Test.YtbbmhidnakghfaaDoorG4
import Derived.Test.YtbbmhidnakghfaaDoorT1
import Derived.Deep.RegionLaw
namespace Go.Proofs.YtbbmhidnakghfaaDoor
open Go.RowKit Go.Sort

theorem drew2 (w : World) (a b : Nat) : ∃ k, (w.drewN a).drewN b = w.drewN k := ⟨a + b, by simp⟩
/-- Two rows of numbers are alike. -/
def likeB (n m : Nat) (f g : Nat → Int) : Bool := decide (n = m ∧ ∀ i, i < n → f i = g i)
theorem likeB_true {n m : Nat} {f g : Nat → Int} : likeB n m f g = true ↔ n = m ∧ ∀ i, i < n → f i = g i := by unfold likeB; exact decide_eq_true_iff
theorem likeB_false {n m : Nat} {f g : Nat → Int} : likeB n m f g = false ↔ ¬ (n = m ∧ ∀ i, i < n → f i = g i) := by unfold likeB; exact decide_eq_false_iff_not
set_option maxHeartbeats 1000000 in
theorem lawSame_any (a a' : Option Addr) (n c n' c' : Nat) (f g : Nat → Int) (w : World) (ha : IRow w a n c f) (hb : IRow w a' n' c' g) :
    Calls Tryd.prog 20 #[.slice a n c, .slice a' n' c'] w fun e w' => e = .returned (.bool (likeB n n' f g)) ∧ ∃ k, w' = w.drewN k := by
  obtain ⟨h1, h2, h3⟩ := ha
  obtain ⟨h1', h2', h3'⟩ := hb
  by_cases hne : n = n'
  · subst hne
    have HE : Hid ((∀ i, i < n → f i = g i) → likeB n n f g = true) := fun h => likeB_true.2 ⟨rfl, h⟩
    have HN : Hid (∀ i, i < n → f i ≠ g i → likeB n n f g = false) := fun i hi h => likeB_false.2 fun ⟨_, h'⟩ => h (h' i hi)
    generalize likeB n n f g = s at *
    have H3 := hide h3
    have H3' := hide h3'
    clear h3 h3'
    go_enter Tryd.func20, Tryd.ntmps20
    go_wp2
    go_loopw [5] (fun v wr => ∃ m k : Nat, v = .int .i64 (m : Int) ∧ m ≤ n ∧ wr = w.drewN k ∧ (∀ j, j < m → f j = g j)) (fun v _ => n - (intOf v).toNat)
    case atStart => exact ⟨0, 0, rfl, Nat.zero_le _, rfl, fun j h1 => absurd h1 (Nat.not_lt_zero _)⟩
    case round =>
      obtain ⟨m, k, rfl, hm, rfl, hz⟩ := hrel
      have HZ : Hid (∀ j, j < m → f j = g j) := hz
      clear hz
      by_cases hlt : m < n
      · obtain ⟨b, o, rfl, hbl, hc⟩ := unhide H3 (by omega)
        obtain ⟨b', o', rfl, hbl', hc'⟩ := unhide H3' (by omega)
        obtain ⟨x, hx⟩ : ∃ x, f m = x := ⟨_, rfl⟩
        obtain ⟨y, hy⟩ : ∃ y, g m = y := ⟨_, rfl⟩
        have hcm := hc m hlt
        have hcm' := hc' m hlt
        have HX : Hid (f m = x) := hx
        have HY : Hid (g m = y) := hy
        rw [hx] at hcm
        rw [hy] at hcm'
        have e2 : (0 : Int) ≤ (m : Int) := by omega
        have e3 : (m : Int) < (n : Int) := by omega
        clear hc hc' H3 H3' hx hy
        by_cases hxy : x = y
        · subst hxy
          clear HE HN
          go_wp2_with fail
          go_quiet (fail)
          go_wp2
          refine ⟨⟨m + 1, k + nq, by go_num, by omega, rfl, fun j h1 => ?_⟩, ?_⟩
          · rcases Nat.lt_or_ge j m with h | h
            · exact HZ.out j h
            · rw [show j = m by omega, HX.out, HY.out]
          · simp [intOf]; omega
        · have hxb : (x != y) = true := by rw [bne_iff_ne]; exact hxy
          have hs : s = false := HN.out m hlt (by rw [HX.out, HY.out]; exact hxy)
          subst hs
          clear HE HN
          go_wp2_with fail
          go_quiet (fail)
          go_wp2
          go_ret
          exact ⟨rfl, drew2 _ _ _⟩
      · obtain rfl : m = n := by omega
        have hs : s = true := HE.out HZ.out
        subst hs
        clear HE HN H3 H3'
        go_wp2
        go_ret
        exact ⟨rfl, k, rfl⟩
  · have hs : likeB n n' f g = false := likeB_false.2 fun h => hne h.1
    rw [hs]
    clear hs h3 h3'
    have hne : ((n : Int) != (n' : Int)) = true := by rw [bne_iff_ne]; omega
    go_enter Tryd.func20, Tryd.ntmps20
    go_wp2
    go_ret
    exact ⟨rfl, 0, rfl⟩
set_option maxHeartbeats 2000000 in
theorem ints_good (G a' : Option Addr) (n c c' : Nat) (F : Nat → Int) (w : World) (ha : IRow w G n c F) (hb : IRow w a' n c' F) :
    Calls Tryd.prog 13 #[.slice G n c, .nilIface, .slice a' n c', .int .i64 0] w fun e w' => e = .returned (.bool true) ∧ Below w.heap.size w w' := by
  have HS := hide (lawSame_any G a' n c n c' F F w ha hb)
  rw [likeB_true.2 ⟨rfl, fun _ _ => rfl⟩] at HS
  clear ha hb
  go_enter Tryd.func13, Tryd.ntmps13
  go_wp2_with fail
  refine (unhide HS).mono ?_
  rintro e w1 ⟨rfl, q, rfl⟩
  go_wp2
  go_ret
  exact ⟨rfl, below_drewN _ _⟩
set_option maxHeartbeats 2000000 in
theorem ints_bad (k : Int) (hk : k ≠ 0) (w : World) (hg : ErrTy w) :
    Calls Tryd.prog 13 #[.slice none 0 0, .iface 26 (.int .i64 k), .slice none 0 0, .int .i64 k] w fun e w' => e = .returned (.bool true) ∧ Below w.heap.size w w' := by
  have HT := hide (tell_errno k w hg)
  clear hg
  go_enter Tryd.func13, Tryd.ntmps13
  go_wp2_with fail
  refine (unhide HT).mono ?_
  rintro e w1 ⟨rfl, hb⟩
  go_wp2
  go_ret
  exact ⟨rfl, hb⟩
set_option maxHeartbeats 2000000 in
theorem whole_good (x : Int) (w : World) :
    Calls Tryd.prog 10 #[.int .i64 x, .nilIface, .int .i64 x, .int .i64 0] w fun e w' => e = .returned (.bool true) ∧ Below w.heap.size w w' := by
  have e0 : (x == x) = true := by simp
  go_enter Tryd.func10, Tryd.ntmps10
  go_wp2
  go_ret
  exact ⟨rfl, Below.refl _ _⟩
set_option maxHeartbeats 2000000 in
theorem whole_bad (y k : Int) (hk : k ≠ 0) (w : World) (hg : ErrTy w) :
    Calls Tryd.prog 10 #[.int .i64 0, .iface 26 (.int .i64 k), .int .i64 y, .int .i64 k] w fun e w' => e = .returned (.bool true) ∧ Below w.heap.size w w' := by
  have HT := hide (tell_errno k w hg)
  clear hg
  go_enter Tryd.func10, Tryd.ntmps10
  go_wp2_with fail
  refine (unhide HT).mono ?_
  rintro e w1 ⟨rfl, hb⟩
  go_wp2
  go_ret
  exact ⟨rfl, hb⟩
theorem tellV (k : Int) (w : World) (hg : ErrTy w) : Calls Tryd.prog 7 #[errV k] w fun e w' => e = .returned (.int .i64 k) ∧ Below w.heap.size w w' := by
  by_cases h : k = 0
  · subst h
    refine (tell_nil w).mono ?_
    rintro e w' ⟨rfl, rfl⟩
    exact ⟨rfl, Below.refl _ _⟩
  · rw [errV_not h]
    exact tell_errno k w hg

set_option maxHeartbeats 8000000 in
set_option maxRecDepth 100000 in
set_option linter.unusedSimpArgs false in
theorem rneed_any (wa : Option Addr) (wn wd : Nat) (oa : Option Addr) (om od : Nat) (ka : Option Addr) (km kd : Nat) (fW fO fK : Nat → Int) (w : World) (hw : IRow w wa wn wd fW) (ho : IRow w oa om od fO) (hk : IRow w ka km kd fK) :
    Calls Tryd.prog 9 #[.agg #[.slice wa wn wd, .slice oa om od, .slice ka km kd]] w fun e w' => e = .returned (.int .i64 (ncode wn om km fW fO fK)) ∧ Below w.heap.size w w' := by
  have q1 := hw.1
  have q2 := hw.2.1
  have q3 := ho.1
  have q4 := ho.2.1
  have q5 := hk.1
  have q6 := hk.2.1
  have hbx := heap_alloc_new w (.cells #[.slice wa wn wd, .slice oa om od, .slice ka km kd] 25)
  have HB1 := hide (alloc_below w (.cells #[.slice wa wn wd, .slice oa om od, .slice ka km kd] 25))
  obtain ⟨W1, hW1⟩ : ∃ W, w.alloc (.cells #[.slice wa wn wd, .slice oa om od, .slice ka km kd] 25) = W := ⟨_, rfl⟩
  obtain ⟨g, hg⟩ : ∃ g, w.heap.size = g := ⟨_, rfl⟩
  rw [hW1] at HB1 hbx
  rw [hg] at hbx
  obtain ⟨c0, c1, c2⟩ := cells3 hbx
  have HBX := hide hbx
  have HWR := hide (hw.below (unhide HB1))
  have HOR := hide (ho.below (unhide HB1))
  have HKR := hide (hk.below (unhide HB1))
  clear hw ho hk hbx
  by_cases hn : 50 < wn
  · have hv : ncode wn om km fW fO fK = 4 := by unfold ncode; rw [if_pos hn]
    rw [hv]
    have hn' : (50 : Int) < (wn : Int) := by omega
    clear hv
    go_enter Tryd.func9, Tryd.ntmps9
    go_wp2
    go_ret
    exact ⟨rfl, by first | exact unhide HB1 | (rw [hg] at HB1; exact unhide HB1)⟩
  have hn' : ¬ (50 : Int) < (wn : Int) := by omega
  by_cases h1 : om = wn
  case neg =>
    have hv : ncode wn om km fW fO fK = 3 := by unfold ncode; rw [if_neg hn, if_pos (Or.inl h1)]
    rw [hv]
    have e1 : ((om : Int) == (wn : Int)) = false := by simp; omega
    clear hv
    go_enter Tryd.func9, Tryd.ntmps9
    go_wp2
    go_ret
    exact ⟨rfl, by first | exact unhide HB1 | (rw [hg] at HB1; exact unhide HB1)⟩
  subst h1
  by_cases h2 : km = om
  case neg =>
    have hv : ncode om om km fW fO fK = 3 := by unfold ncode; rw [if_neg hn, if_pos (Or.inr h2)]
    rw [hv]
    have e1 : ((km : Int) == (om : Int)) = false := by simp; omega
    have e2 : ((om : Int) == (om : Int)) = true := by simp
    clear hv
    go_enter Tryd.func9, Tryd.ntmps9
    go_wp2
    go_ret
    exact ⟨rfl, by first | exact unhide HB1 | (rw [hg] at HB1; exact unhide HB1)⟩
  subst h2
  have hnc : ncode km km km fW fO fK = if (anyB fW km || anyB fO km || anyB fK km) = true then 2 else 0 := by unfold ncode; rw [if_neg hn, if_neg (by omega)]
  have HBAD : Hid (∀ m, m < km → ∀ p, p < 3 → nbad (three (fW m) (fO m) (fK m) p) = true → ncode km km km fW fO fK = 2) := by
    show ∀ m, _
    intro m hm p hp hb
    rw [hnc, if_pos]
    match p, hp, hb with
    | 0, _, hb => have hb' : anyB fW km = true := anyB_true hm hb; simp [hb']
    | 1, _, hb => have hb' : anyB fO km = true := anyB_true hm hb; simp [hb']
    | 2, _, hb => have hb' : anyB fK km = true := anyB_true hm hb; simp [hb']
  have HALL : Hid ((∀ m, m < km → ∀ p, p < 3 → nbad (three (fW m) (fO m) (fK m) p) = false) → ncode km km km fW fO fK = 0) := by
    show _ → _
    intro h
    have a0 : anyB fW km = false := anyB_false fun j hj => h j hj 0 (by omega)
    have a1 : anyB fO km = false := anyB_false fun j hj => h j hj 1 (by omega)
    have a2 : anyB fK km = false := anyB_false fun j hj => h j hj 2 (by omega)
    rw [hnc, a0, a1, a2]; rfl
  obtain ⟨V, hV⟩ : ∃ V, ncode km km km fW fO fK = V := ⟨_, rfl⟩
  rw [hV] at HBAD HALL ⊢
  have e1 : ((km : Int) == (km : Int)) = true := by simp
  clear hnc hV
  go_enter Tryd.func9, Tryd.ntmps9
  go_wp2_with fail
  clear c0 c1 c2 hW1 hg
  go_loopw [29] (fun vi wr => ∃ m : Nat, vi = .int .i64 (m : Int) ∧ m ≤ km ∧ (∀ j, j < m → ∀ p, p < 3 → nbad (three (fW j) (fO j) (fK j) p) = false) ∧ Below W1.heap.size W1 wr) (fun vi _ => km - (intOf vi).toNat)
  case atStart => exact ⟨0, rfl, Nat.zero_le _, fun j hj => absurd hj (Nat.not_lt_zero _), Below.refl _ _⟩
  case round =>
    obtain ⟨m, rfl, hm, hj, hb⟩ := hrel
    by_cases hlt : m < km
    · obtain ⟨_, _, ww⟩ := (unhide HWR).below hb
      obtain ⟨_, _, wo⟩ := (unhide HOR).below hb
      obtain ⟨_, _, wk⟩ := (unhide HKR).below hb
      obtain ⟨bw, pw, rfl, lw, kw⟩ := ww (by omega)
      obtain ⟨bo, po, rfl, lo, ko⟩ := wo (by omega)
      obtain ⟨bk, pk, rfl, lk, kk⟩ := wk (by omega)
      have k0 := kw m hlt
      have k1 := ko m hlt
      have k2 := kk m hlt
      have hbx := blk_keep (unhide HBX) hb
      have hbd := unhide HBAD m hlt
      obtain ⟨x, hx⟩ : ∃ x, fW m = x := ⟨_, rfl⟩
      obtain ⟨y, hy⟩ : ∃ x, fO m = x := ⟨_, rfl⟩
      obtain ⟨z, hz⟩ : ∃ x, fK m = x := ⟨_, rfl⟩
      rw [hx] at k0 hbd
      rw [hy] at k1 hbd
      rw [hz] at k2 hbd
      have HXYZ : Hid (fW m = x ∧ fO m = y ∧ fK m = z) := ⟨hx, hy, hz⟩
      have e2 : (0 : Int) ≤ (m : Int) := by omega
      have e3 : (m : Int) < (km : Int) := by omega
      have HJ := hide hj
      have HB := hide hb
      have HBD := hide hbd
      have HCC : Hid (∀ W, Below wr.heap.size wr W → (fun w' : World => w'.cell? ⟨g, 0, none⟩ = some (.slice (some ⟨bw, pw, none⟩) km wd) ∧ w'.cell? ⟨g, 1, none⟩ = some (.slice (some ⟨bo, po, none⟩) km od) ∧ w'.cell? ⟨g, 2, none⟩ = some (.slice (some ⟨bk, pk, none⟩) km kd) ∧ w'.cell? ⟨bw, pw + m, none⟩ = some (.int .i64 x) ∧ w'.cell? ⟨bo, po + m, none⟩ = some (.int .i64 y) ∧ w'.cell? ⟨bk, pk + m, none⟩ = some (.int .i64 z)) W) := by
        show ∀ W, _
        intro W hW
        obtain ⟨d0, d1, d2⟩ := cells3 (blk_keep hbx hW)
        rw [← hW.cell (p := ⟨bw, pw + m, none⟩) lw] at k0
        rw [← hW.cell (p := ⟨bo, po + m, none⟩) lo] at k1
        rw [← hW.cell (p := ⟨bk, pk + m, none⟩) lk] at k2
        exact ⟨d0, d1, d2, k0, k1, k2⟩
      clear kw ko kk ww wo wk hx hy hz hbd hj hb hbx k0 k1 k2 HWR HOR HKR HBX HALL HBAD
      go_wp2_with fail
      refine wp_region_hold (fun w' : World => w'.cell? ⟨g, 0, none⟩ = some (.slice (some ⟨bw, pw, none⟩) km wd) ∧ w'.cell? ⟨g, 1, none⟩ = some (.slice (some ⟨bo, po, none⟩) km od) ∧ w'.cell? ⟨g, 2, none⟩ = some (.slice (some ⟨bk, pk, none⟩) km kd) ∧ w'.cell? ⟨bw, pw + m, none⟩ = some (.int .i64 x) ∧ w'.cell? ⟨bo, po + m, none⟩ = some (.int .i64 y) ∧ w'.cell? ⟨bk, pk + m, none⟩ = some (.int .i64 z)) (by kernel_rfl) ?_
      have bd0 : Below wr.heap.size wr wr.drew := (Below.refl _ _).drew
      have hC0 : (fun w' : World => w'.cell? ⟨g, 0, none⟩ = some (.slice (some ⟨bw, pw, none⟩) km wd) ∧ w'.cell? ⟨g, 1, none⟩ = some (.slice (some ⟨bo, po, none⟩) km od) ∧ w'.cell? ⟨g, 2, none⟩ = some (.slice (some ⟨bk, pk, none⟩) km kd) ∧ w'.cell? ⟨bw, pw + m, none⟩ = some (.int .i64 x) ∧ w'.cell? ⟨bo, po + m, none⟩ = some (.int .i64 y) ∧ w'.cell? ⟨bk, pk + m, none⟩ = some (.int .i64 z)) wr.drew := unhide HCC _ bd0
      refine wpHold_take (i := 0) (v := ?_) rfl (by kernel_rfl) (by kernel_rfl) (by kernel_rfl) (fun _ _ _ h => h) (Or.inl ⟨by rfl, ?_⟩) hC0 ?_
      rotate_left
      · intro w hSw; clear hSw; go_simp; (try with_reducible rfl)
      (try simp only [List.getElem_toArray, List.getElem_cons_succ, List.getElem_cons_zero])
      (try simp only [Act.put, List.setIfInBounds_toArray, List.set_cons_zero, List.set_cons_succ])
      refine wpHold_take (i := 1) (v := ?_) rfl (by kernel_rfl) (by kernel_rfl) (by kernel_rfl) (fun _ _ _ h => h) (Or.inl ⟨by rfl, ?_⟩) hC0 ?_
      rotate_left
      · intro w hSw; (try dsimp only at hSw); obtain ⟨z0, z1, z2, z3, z4, z5⟩ := hSw; go_simp; (try with_reducible rfl)
      (try simp only [List.getElem_toArray, List.getElem_cons_succ, List.getElem_cons_zero])
      (try simp only [Act.put, List.setIfInBounds_toArray, List.set_cons_zero, List.set_cons_succ])
      refine wpHold_take (i := 2) (v := ?_) rfl (by kernel_rfl) (by kernel_rfl) (by kernel_rfl) (fun _ _ _ h => h) (Or.inl ⟨by rfl, ?_⟩) hC0 ?_
      rotate_left
      · intro w hSw; clear hSw; go_simp; (try with_reducible rfl)
      (try simp only [List.getElem_toArray, List.getElem_cons_succ, List.getElem_cons_zero])
      (try simp only [Act.put, List.setIfInBounds_toArray, List.set_cons_zero, List.set_cons_succ])
      refine wpHold_take (i := 3) (v := ?_) rfl (by kernel_rfl) (by kernel_rfl) (by kernel_rfl) (fun _ _ _ h => h) (Or.inl ⟨by rfl, ?_⟩) hC0 ?_
      rotate_left
      · intro w hSw; clear hSw; go_simp; (try with_reducible rfl)
      (try simp only [List.getElem_toArray, List.getElem_cons_succ, List.getElem_cons_zero])
      (try simp only [Act.put, List.setIfInBounds_toArray, List.set_cons_zero, List.set_cons_succ])
      refine wpHold_take (i := 4) (v := ?_) rfl (by kernel_rfl) (by kernel_rfl) (by kernel_rfl) (fun _ _ _ h => h) (Or.inl ⟨by rfl, ?_⟩) hC0 ?_
      rotate_left
      · intro w hSw; (try dsimp only at hSw); obtain ⟨z0, z1, z2, z3, z4, z5⟩ := hSw; go_simp; (try with_reducible rfl)
      (try simp only [List.getElem_toArray, List.getElem_cons_succ, List.getElem_cons_zero])
      (try simp only [Act.put, List.setIfInBounds_toArray, List.set_cons_zero, List.set_cons_succ])
      refine wpHold_take (i := 5) (v := ?_) rfl (by kernel_rfl) (by kernel_rfl) (by kernel_rfl) (fun _ _ _ h => h) (Or.inl ⟨by rfl, ?_⟩) hC0 ?_
      rotate_left
      · intro w hSw; clear hSw; go_simp; (try with_reducible rfl)
      (try simp only [List.getElem_toArray, List.getElem_cons_succ, List.getElem_cons_zero])
      (try simp only [Act.put, List.setIfInBounds_toArray, List.set_cons_zero, List.set_cons_succ])
      refine wpHold_take (i := 6) (v := ?_) rfl (by kernel_rfl) (by kernel_rfl) (by kernel_rfl) (fun _ _ _ h => h) (Or.inl ⟨by rfl, ?_⟩) hC0 ?_
      rotate_left
      · intro w hSw; (try dsimp only at hSw); obtain ⟨z0, z1, z2, z3, z4, z5⟩ := hSw; go_simp; (try with_reducible rfl)
      (try simp only [List.getElem_toArray, List.getElem_cons_succ, List.getElem_cons_zero])
      (try simp only [Act.put, List.setIfInBounds_toArray, List.set_cons_zero, List.set_cons_succ])
      refine wpHold_take (i := 7) (v := ?_) rfl (by kernel_rfl) (by kernel_rfl) (by kernel_rfl) (fun _ _ _ h => h) (Or.inl ⟨by rfl, ?_⟩) hC0 ?_
      rotate_left
      · intro w hSw; clear hSw; go_simp; (try with_reducible rfl)
      (try simp only [List.getElem_toArray, List.getElem_cons_succ, List.getElem_cons_zero])
      (try simp only [Act.put, List.setIfInBounds_toArray, List.set_cons_zero, List.set_cons_succ])
      refine wpHold_take (i := 8) (v := ?_) rfl (by kernel_rfl) (by kernel_rfl) (by kernel_rfl) (fun _ _ _ h => h) (Or.inl ⟨by rfl, ?_⟩) hC0 ?_
      rotate_left
      · intro w hSw; clear hSw; go_simp; (try with_reducible rfl)
      (try simp only [List.getElem_toArray, List.getElem_cons_succ, List.getElem_cons_zero])
      (try simp only [Act.put, List.setIfInBounds_toArray, List.set_cons_zero, List.set_cons_succ])
      refine wpHold_take (i := 9) (v := ?_) rfl (by kernel_rfl) (by kernel_rfl) (by kernel_rfl) (fun _ _ _ h => h) (Or.inl ⟨by rfl, ?_⟩) hC0 ?_
      rotate_left
      · intro w hSw; (try dsimp only at hSw); obtain ⟨z0, z1, z2, z3, z4, z5⟩ := hSw; go_simp; (try with_reducible rfl)
      (try simp only [List.getElem_toArray, List.getElem_cons_succ, List.getElem_cons_zero])
      (try simp only [Act.put, List.setIfInBounds_toArray, List.set_cons_zero, List.set_cons_succ])
      refine wpHold_take (i := 10) (v := ?_) rfl (by kernel_rfl) (by kernel_rfl) (by kernel_rfl) (fun _ _ _ h => h) (Or.inl ⟨by rfl, ?_⟩) hC0 ?_
      rotate_left
      · intro w hSw; clear hSw; go_simp; (try with_reducible rfl)
      (try simp only [List.getElem_toArray, List.getElem_cons_succ, List.getElem_cons_zero])
      (try simp only [Act.put, List.setIfInBounds_toArray, List.set_cons_zero, List.set_cons_succ])
      refine wpHold_take (i := 11) (v := ?_) rfl (by kernel_rfl) (by kernel_rfl) (by kernel_rfl) (fun _ _ _ h => h) (Or.inl ⟨by rfl, ?_⟩) hC0 ?_
      rotate_left
      · intro w hSw; (try dsimp only at hSw); obtain ⟨z0, z1, z2, z3, z4, z5⟩ := hSw; go_simp; (try with_reducible rfl)
      (try simp only [List.getElem_toArray, List.getElem_cons_succ, List.getElem_cons_zero])
      (try simp only [Act.put, List.setIfInBounds_toArray, List.set_cons_zero, List.set_cons_succ])
      refine wpHold_take (i := 12) (v := ?_) rfl (by kernel_rfl) (by kernel_rfl) (by kernel_rfl) (fun _ _ _ h => h) (Or.inl ⟨by rfl, ?_⟩) hC0 ?_
      rotate_left
      · intro w hSw; clear hSw; go_simp; (try with_reducible rfl)
      (try simp only [List.getElem_toArray, List.getElem_cons_succ, List.getElem_cons_zero])
      (try simp only [Act.put, List.setIfInBounds_toArray, List.set_cons_zero, List.set_cons_succ])
      refine wpHold_take (i := 13) (v := ?_) rfl (by kernel_rfl) (by kernel_rfl) (by kernel_rfl) (fun _ _ _ h => h) (Or.inl ⟨by rfl, ?_⟩) hC0 ?_
      rotate_left
      · intro w hSw; clear hSw; go_simp; (try with_reducible rfl)
      (try simp only [List.getElem_toArray, List.getElem_cons_succ, List.getElem_cons_zero])
      (try simp only [Act.put, List.setIfInBounds_toArray, List.set_cons_zero, List.set_cons_succ])
      refine wpHold_take (i := 14) (v := ?_) rfl (by kernel_rfl) (by kernel_rfl) (by kernel_rfl) (fun _ _ _ h => h) (Or.inl ⟨by rfl, ?_⟩) hC0 ?_
      rotate_left
      · intro w hSw; (try dsimp only at hSw); obtain ⟨z0, z1, z2, z3, z4, z5⟩ := hSw; go_simp; (try with_reducible rfl)
      (try simp only [List.getElem_toArray, List.getElem_cons_succ, List.getElem_cons_zero])
      (try simp only [Act.put, List.setIfInBounds_toArray, List.set_cons_zero, List.set_cons_succ])
      refine wpHold_take (i := 17) (v := ?_) rfl (by kernel_rfl) (by kernel_rfl) (by kernel_rfl) (fun _ _ _ h => h) (Or.inl ⟨by rfl, ?_⟩) hC0 ?_
      rotate_left
      · intro w hSw; clear hSw; go_simp; (try with_reducible rfl)
      (try simp only [List.getElem_toArray, List.getElem_cons_succ, List.getElem_cons_zero])
      (try simp only [Act.put, List.setIfInBounds_toArray, List.set_cons_zero, List.set_cons_succ])
      refine wpHold_one (k := 15) (by kernel_rfl) rfl (fun K hK => ?_)
      (try simp only [List.getElem_toArray, List.getElem_cons_succ, List.getElem_cons_zero])
      go_simp
      refine hK.out _ _ (unhide HCC _ (alloc_below wr _).drew) ?_
      clear hK K
      (try simp only [Act.put, List.setIfInBounds_toArray, List.set_cons_zero, List.set_cons_succ])
      refine wpHold_one (k := 16) (by kernel_rfl) rfl (fun K hK => ?_)
      (try simp only [List.getElem_toArray, List.getElem_cons_succ, List.getElem_cons_zero])
      go_simp
      refine hK.out _ _ (unhide HCC _ (alloc_below wr _).drew) ?_
      clear hK K
      (try simp only [Act.put, List.setIfInBounds_toArray, List.set_cons_zero, List.set_cons_succ])
      refine wpHold_done (by kernel_rfl) ?_ _
      have HB2 := hide (below_step (unhide HB) (alloc_below wr (.cells #[.int .i64 x, .int .i64 y, .int .i64 z] 3)).drew)
      have hbx2 := blk_keep (heap_alloc_new wr (.cells #[.int .i64 x, .int .i64 y, .int .i64 z] 3)) (drew_below _)
      obtain ⟨W2, hW2⟩ : ∃ W, (wr.alloc (.cells #[.int .i64 x, .int .i64 y, .int .i64 z] 3)).drew = W := ⟨_, rfl⟩
      obtain ⟨G, hG⟩ : ∃ G, wr.heap.size = G := ⟨_, rfl⟩
      rw [hW2] at HB2 hbx2
      rw [hG] at hbx2
      have HCE : Hid (∀ p, p < 3 → W2.cell? ⟨G, p, none⟩ = some (.int .i64 (three x y z p))) := by
        show ∀ p, _
        obtain ⟨d0, d1, d2⟩ := cells3 hbx2
        intro p hp
        match p, hp with
        | 0, _ => exact d0
        | 1, _ => exact d1
        | 2, _ => exact d2
      simp only [hW2, hG]
      clear hbx2 hW2 hG bd0 hC0 HCC HB
      go_wp2_with fail
      go_loopw [49] (fun vi wv => ∃ p : Nat, vi = .int .i64 (p : Int) ∧ p ≤ 3 ∧ (∀ j, j < p → nbad (three x y z j) = false) ∧ wv = W2) (fun vi _ => 3 - (intOf vi).toNat)
      case atStart => exact ⟨0, rfl, Nat.zero_le _, fun j hj => absurd hj (Nat.not_lt_zero _), rfl⟩
      case round =>
        obtain ⟨p, rfl, hp, hj, rfl⟩ := hrel
        by_cases hlp : p < 3
        · have k0 := unhide HCE p hlp
          obtain ⟨u, hu⟩ : ∃ u, three x y z p = u := ⟨_, rfl⟩
          rw [hu] at k0
          have e4 : (0 : Int) ≤ (p : Int) := by omega
          have e5 : (p : Int) < 3 := by omega
          by_cases g0 : u < 0
          · obtain rfl : V = 2 := unhide HBD p hlp (by rw [hu]; exact decide_eq_true (Or.inl g0))
            clear hj hu HCE
            go_wp2
            go_ret
            exact ⟨rfl, below_step (unhide HB1) (unhide HB2)⟩
          by_cases g1 : 1000000 < u
          · obtain rfl : V = 2 := unhide HBD p hlp (by rw [hu]; exact decide_eq_true (Or.inr g1))
            clear hj hu HCE
            go_wp2
            go_ret
            exact ⟨rfl, below_step (unhide HB1) (unhide HB2)⟩
          have HF : Hid (∀ j, j < p + 1 → nbad (three x y z j) = false) := by
            show ∀ j, _
            intro j hj2
            by_cases c : j = p
            · rw [c, hu]; exact decide_eq_false (by omega)
            · exact hj j (by omega)
          have f6 : IntKind.i64.wrap ((p : Int) + 1) = (p : Int) + 1 := wrap_is (by omega) (by omega)
          clear hj hu HCE
          go_wp2
          exact ⟨⟨p + 1, by go_num, hlp, unhide HF, by first | exact rfl | trivial⟩, by simp [intOf]; omega⟩
        · obtain rfl : p = 3 := by omega
          have e5 : ¬ (((3 : Nat) : Int)) < 3 := by omega
          have HF : Hid (∀ j, j < m + 1 → ∀ p, p < 3 → nbad (three (fW j) (fO j) (fK j) p) = false) := by
            show ∀ j, _
            intro j hj2 p hp2
            by_cases c : j = m
            · obtain ⟨x1, x2, x3⟩ := unhide HXYZ
              rw [c, x1, x2, x3]; exact hj p hp2
            · exact unhide HJ j (by omega) p hp2
          have f6 : IntKind.i64.wrap ((m : Int) + 1) = (m : Int) + 1 := wrap_is (by omega) (by omega)
          clear hj HCE
          go_wp2
          exact ⟨⟨m + 1, by go_num, hlt, unhide HF, unhide HB2⟩, by simp [intOf]; omega⟩
    · obtain rfl : m = km := by omega
      obtain rfl : V = 0 := unhide HALL hj
      have e3 : ¬ (m : Int) < (m : Int) := by omega
      have HB := hide (below_step (unhide HB1) hb)
      clear hj HALL HBAD hb HWR HOR HKR
      go_wp2
      go_ret
      exact ⟨rfl, unhide HB⟩
end Go.Proofs.YtbbmhidnakghfaaDoor
