/- The document's list on several machines. -/
import Derived.Test.YtepgdlgifempeaaDoorZ8
namespace Go.Proofs.YtepgdlgifempeaaDoor
open Go.RowKit Go.Sort Stb Shp Hp

/-- How far the document's list is. -/
structure VSt (w wr : World) (G k M : Nat) (l r : Nat → Int) (v : Value) : Prop where
  pt : OwnV wr (G + 1) v (lpt M l r k)
  fr : OwnI wr G M (lld M l r k)
  bl : Below w.heap.size w wr
theorem bdrewN (w : World) (k : Nat) : Below w.heap.size w (w.drewN k) := ⟨rfl, rfl, rfl, Nat.le_refl _, fun _ _ => rfl⟩
theorem VSt.keep {w wr wv : World} {G k M : Nat} {l r : Nat → Int} {v : Value} (h : VSt w wr G k M l r v) (hb : Below wr.heap.size wr wv) : VSt w wv G k M l r v :=
  ⟨h.pt.keep hb, h.fr.keep hb, below_step h.bl hb⟩
/-- Behind an append and a number that is put. -/
theorem VSt.next {w wr V1 w5 : World} {G k M : Nat} {l r : Nat → Int} {v : Value} (h : VSt w wr G k M l r v) (hG : w.heap.size = G) (hb : Below wr.heap.size wr V1) (grow : V1.grownBy w5 v.ownBlock) : OwnI w5 G M (lld M l r k) ∧ Below w.heap.size w w5 := by
  refine ⟨?_, Below.grown (below_step h.bl hb) grow (Nat.le_trans h.bl.size hb.size) (fun k hk => by have := h.pt.row k hk; omega)⟩
  refine (h.fr.keep hb).other ?_
  refine grow.block G (Nat.lt_of_lt_of_le h.fr.lt hb.size) (fun e => ?_)
  have := h.pt.row G e.symm
  omega
theorem VSt.put {w w5 wd : World} {G k M c : Nat} {l r : Nat → Int} {v5 : Value} {t : Prt} {nv : Int} (own : OwnV w5 (G + 1) v5 (lpt M l r k ++ [t])) (hF : OwnI w5 G M (lld M l r k)) (hB : Below w.heap.size w w5) (hd : Below w5.heap.size w5 wd) (hG : w.heap.size = G)
    (hc : c = am (lld M l r k) M) (hn : nv = lld M l r k c + l (r k).toNat) (ht : t = ⟨c, (r k).toNat, lld M l r k c, nv⟩) : VSt w (wd.setCell ⟨G, c, none⟩ (.int .i64 nv)) G (k + 1) M l r v5 ∧ OwnI (wd.setCell ⟨G, c, none⟩ (.int .i64 nv)) G M (updI (lld M l r k) c nv) := by
  have hF := hF.keep hd
  refine ⟨⟨?_, ?_, ?_⟩, hF.set c nv⟩
  · rw [lpt_succ, ← hc, ← hn, ← ht]
    exact (own.keep hd).apart (by omega)
  · refine (hF.set c nv).congr (fun j _ => ?_)
    rw [lld_succ, ← hc, ← hn]
    rfl
  · exact (below_step hB hd).setCell (p := ⟨G, c, none⟩) (Nat.le_of_eq hG) (.int .i64 nv)

set_option maxHeartbeats 8000000 in
set_option maxRecDepth 100000 in
set_option linter.unusedSimpArgs false in
theorem listed_any (a : Option Addr) (n ca : Nat) (l : Nat → Int) (M : Nat) (ra : Option Addr) (rc : Nat) (r : Nat → Int) (w : World) (ha : IRow w a n ca l) (hr : IRow w ra n rc r) (hG : GoodL n l M) (hR : GoodR n r) :
    Calls Tryd.prog 22 #[.slice a n ca, .int .i64 (M : Int), .slice ra n rc] w fun e w' => ∃ v, e = .returned (.tuple #[.int .i64 (lend M l r n), v]) ∧ OwnV w' w.heap.size v (lpt M l r n) ∧ Below w.heap.size w w' := by
  obtain ⟨ti, hi, hz0, hz1, hz2⟩ := info_parts Tryd.infoV
  have HI := hide hi
  have HZ := hide hz0
  have HA := hide ha
  have HR := hide hr
  have HBD : Hid (∀ k, k ≤ n → (∀ c, 0 ≤ lld M l r k c ∧ lld M l r k c ≤ 1000000000 * k) ∧ 0 ≤ lend M l r k ∧ lend M l r k ≤ 1000000000 * k) := fun k hk => lld_bd hG hR k hk
  have HRG : Hid (∀ k, k < n → 0 ≤ r k ∧ r k < n) := fun k hk => hR.rng k hk
  have HLB : Hid (∀ i, i < n → 0 ≤ l i ∧ l i ≤ 1000000000) := fun i hi => hG.l i hi
  have m1 : 1 ≤ M := by have := hG.m1; omega
  have m20 : M ≤ 20 := by have := hG.m20; omega
  have hn := hG.few
  have mk := make_ints M (by omega) w
  have O0 := hide (make_own w M)
  have B0 := hide (alloc_below w (.cells (lrow (fun _ => 0) M).toArray 3))
  obtain ⟨W0, hW0⟩ : ∃ W, w.alloc (.cells (lrow (fun _ => 0) M).toArray 3) = W := ⟨_, rfl⟩
  rw [hW0] at mk O0 B0
  obtain ⟨G, hGG⟩ : ∃ G, w.heap.size = G := ⟨_, rfl⟩
  rw [hGG] at mk O0
  have HGE := hide hGG
  have r1 := hr.1
  have r2 := hr.2.1
  clear hW0 hGG ha hr hG hR hi hz0
  go_enter Tryd.func22, Tryd.ntmps22
  go_wp2_with fail
  clear mk
  go_loopw [9, 10, 19] (fun vo ve vk wr => ∃ k : Nat, vk = .int .i64 (k : Int) ∧ ve = .int .i64 (lend M l r k) ∧ k ≤ n ∧ VSt w wr G k M l r vo) (fun _ _ vk _ => n - (intOf vk).toNat)
  case atStart => exact ⟨0, rfl, rfl, Nat.zero_le _, ⟨OwnV.start _ _, (unhide O0).congr (fun j _ => rfl), unhide B0⟩⟩
  case round =>
    obtain ⟨k, rfl, rfl, hk, hS⟩ := hrel
    by_cases hlt : k < n
    · obtain ⟨b', o', rfl, hbl', hc'⟩ := ((unhide HR).below hS.bl).2.2 (by omega)
      have c0 := hc' k hlt
      have hrg := unhide HRG k hlt
      obtain ⟨i, hi⟩ : ∃ i : Nat, (r k).toNat = i := ⟨_, rfl⟩
      have hri : r k = (i : Int) := by omega
      rw [hri] at c0
      have hin : i < n := by omega
      have e1 : (0 : Int) ≤ (k : Int) := by omega
      have e2 : (k : Int) < (n : Int) := by omega
      have e3 : IntKind.i64.wrap ((k : Int) + 1) = (k : Int) + 1 := by rw [IntKind.wrap_i64]; omega
      have HST := hide hS
      have HI2 := hide hi
      obtain ⟨L, hL⟩ : ∃ L, lld M l r k = L := ⟨_, rfl⟩
      have HL := hide hL
      obtain ⟨E, hE⟩ : ∃ E, lend M l r k = E := ⟨_, rfl⟩
      have HE := hide hE
      rw [hE]
      have HO : Hid (OwnI wr G M L) := by rw [← hL]; exact hS.fr
      clear hc' hS hi hri hL hE
      go_wp2_with fail
      obtain ⟨WR, hWR⟩ : ∃ V, V = wr := ⟨_, rfl⟩
      go_loopw [13, 25] (fun vm vj wv => ∃ j : Nat, vj = .int .i64 (j : Int) ∧ vm = .int .i64 (am L j : Int) ∧ j ≤ M ∧ Below WR.heap.size WR wv) (fun _ vj _ => M - (intOf vj).toNat)
      case atStart => exact ⟨0, rfl, rfl, Nat.zero_le _, by rw [hWR]; exact Below.refl _ _⟩
      case round =>
        obtain ⟨j, rfl, rfl, hj, hbv⟩ := hrel
        subst hWR
        by_cases hjl : j < M
        · have d0 := ((unhide HO).keep hbv).cell hjl
          have ham : am L j < M := by
            rcases Nat.eq_zero_or_pos j with q | q
            · rw [q]; show (0 : Nat) < M; omega
            · have := am_lt L j q; omega
          have d1 := ((unhide HO).keep hbv).cell ham
          have HAM : Hid (am L (j + 1) = if L j < L (am L j) then j else am L j) := rfl
          obtain ⟨q, hq⟩ : ∃ q, am L j = q := ⟨_, rfl⟩
          rw [hq] at d1 ham HAM ⊢
          obtain ⟨x, hx⟩ : ∃ x, L j = x := ⟨_, rfl⟩
          obtain ⟨y, hy⟩ : ∃ y, L q = y := ⟨_, rfl⟩
          rw [hx] at d0 HAM
          rw [hy] at d1 HAM
          have f1 : (j : Int) < (M : Int) := by omega
          have f2 : (0 : Int) ≤ (j : Int) := by omega
          have f3 : (q : Int) < (M : Int) := by omega
          have f4 : (0 : Int) ≤ (q : Int) := by omega
          have f5 : IntKind.i64.wrap ((j : Int) + 1) = (j : Int) + 1 := by rw [IntKind.wrap_i64]; omega
          have HBV := hide hbv
          clear hx hy hq hbv
          go_wp2_with fail
          go_quiet (fail)
          by_cases hxy : x < y
          · rw [if_pos hxy] at HAM
            go_wp2
            exact ⟨⟨j + 1, by go_num, by rw [unhide HAM], hjl, below_step (unhide HBV) (bdrewN _ _)⟩, by simp [intOf]; omega⟩
          · rw [if_neg hxy] at HAM
            go_wp2
            exact ⟨⟨j + 1, by go_num, by rw [unhide HAM], hjl, below_step (unhide HBV) (bdrewN _ _)⟩, by simp [intOf]; omega⟩
        · obtain rfl : j = M := by omega
          have HST' := hide ((unhide HST).keep hbv)
          have HO' := hide ((unhide HO).keep hbv)
          clear hbv HST HO c0
          have HST := HST'
          have HO := HO'
          clear HST' HO'
          have f1 : ¬ (j : Int) < (j : Int) := by omega
          obtain ⟨c, hc⟩ : ∃ c, am L j = c := ⟨_, rfl⟩
          rw [hc]
          have hcm : c < j := by rw [← hc]; exact am_lt L j m1
          have HC : Hid (c = am (lld j l r k) j) := by show c = _; rw [unhide HL]; exact hc.symm
          have HCM := hide hcm
          obtain ⟨b, o, rfl, hbl, hcl⟩ := ((unhide HA).below (unhide HST).bl).2.2 (by omega)
          have d1 := hcl i hin
          have d0 := (unhide HO).cell hcm
          have hbd := (unhide HBD k (by omega)).1 c
          rw [unhide HL] at hbd
          have hlb := unhide HLB i hin
          obtain ⟨x, hx⟩ : ∃ x, L c = x := ⟨_, rfl⟩
          obtain ⟨y, hy⟩ : ∃ y, l i = y := ⟨_, rfl⟩
          rw [hx] at d0 hbd
          rw [hy] at d1 hlb
          obtain ⟨z, hz⟩ : ∃ z, x + y = z := ⟨_, rfl⟩
          have g1 : IntKind.i64.wrap (x + y) = z := by rw [IntKind.wrap_i64]; omega
          have HX : Hid (lld j l r k c = x) := by show _ = _; rw [unhide HL]; exact hx
          have HNV : Hid (z = lld j l r k c + l (r k).toNat) := by show _ = _; rw [unhide HL, unhide HI2, hx, hy]; exact hz.symm
          have HTT : Hid ((⟨c, i, x, z⟩ : Prt) = ⟨c, (r k).toNat, lld j l r k c, z⟩) := by show _ = _; rw [unhide HL, unhide HI2, hx]
          have HLL := hide (lpt_len j l r k)
          have HEN : Hid (lend j l r (k + 1) = if E < z then z else E) := by
            show lend j l r (k + 1) = _
            rw [lend_succ, unhide HE, unhide HL, unhide HI2, hc, hx, hy, hz]
            split <;> omega
          have HCC : Hid (∀ W, Below wr.heap.size wr W → (fun w' : World => w'.cell? ⟨G, c, none⟩ = some (.int .i64 x) ∧ w'.cell? ⟨b, o + i, none⟩ = some (.int .i64 y)) W) := fun W hW => by
            show _ ∧ _
            rw [hW.cell (p := ⟨b, o + i, none⟩) hbl, hW.cell (p := ⟨G, c, none⟩) (unhide HO).lt]
            exact ⟨d0, d1⟩
          have hbw : b < w.heap.size := by
            obtain ⟨b2, o2, e, h2, _⟩ := (unhide HA).2.2 (by omega)
            injection e with e; injection e with e1 e2 e3
            omega
          have HBL := hide hbw
          have HY : Hid (w.cell? ⟨b, o + i, none⟩ = some (.int .i64 y)) := by show _ = _; rw [← (unhide HST).bl.cell (p := ⟨b, o + i, none⟩) hbw]; exact d1
          have g2 : (i : Int) < (n : Int) := by omega
          have g3 : (0 : Int) ≤ (i : Int) := by omega
          have g4 : (c : Int) < (j : Int) := by omega
          have g5 : (0 : Int) ≤ (c : Int) := by omega
          have i1 := (unhide HA).1
          have i2 := (unhide HA).2.1
          clear hcl d0 d1 hc hcm hx hy hz hbl hbw hbd hlb
          go_wp2_with fail
          (try simp only [Exit.inBlock, Exit.then])
          (try go_wp2_with fail)
          refine wp_region_hold (fun w' : World => w'.cell? ⟨G, c, none⟩ = some (.int .i64 x) ∧ w'.cell? ⟨b, o + i, none⟩ = some (.int .i64 y)) (by kernel_rfl) ?_
          have bd0 : Below wr.heap.size wr wr.drew := (Below.refl _ _).drew
          obtain ⟨WD, hWD⟩ : ∃ W, wr.drew = W := ⟨_, rfl⟩
          rw [hWD] at bd0 ⊢
          clear hWD
          have hC0 : (fun w' : World => w'.cell? ⟨G, c, none⟩ = some (.int .i64 x) ∧ w'.cell? ⟨b, o + i, none⟩ = some (.int .i64 y)) WD := unhide HCC _ bd0
          refine wpHold_take (i := 0) (v := ?_) rfl (by kernel_rfl) (by kernel_rfl) (by kernel_rfl) (fun _ _ _ h => h) (Or.inl ⟨by rfl, ?_⟩) hC0 ?_
          rotate_left
          · intro w hSw; clear hSw; go_simp; (try with_reducible rfl)
          (try simp only [List.getElem_toArray, List.getElem_cons_succ, List.getElem_cons_zero])
          (try simp only [Act.put, List.setIfInBounds_toArray, List.set_cons_zero, List.set_cons_succ])
          refine wpHold_take (i := 1) (v := ?_) rfl (by kernel_rfl) (by kernel_rfl) (by kernel_rfl) (fun _ _ _ h => h) (Or.inl ⟨by rfl, ?_⟩) hC0 ?_
          rotate_left
          · intro w hSw; clear hSw; go_simp; (try with_reducible rfl)
          (try simp only [List.getElem_toArray, List.getElem_cons_succ, List.getElem_cons_zero])
          (try simp only [Act.put, List.setIfInBounds_toArray, List.set_cons_zero, List.set_cons_succ])
          refine wpHold_take (i := 2) (v := ?_) rfl (by kernel_rfl) (by kernel_rfl) (by kernel_rfl) (fun _ _ _ h => h) (Or.inl ⟨by rfl, ?_⟩) hC0 ?_
          rotate_left
          · intro w hSw; clear hSw; go_simp; (try with_reducible rfl)
          (try simp only [List.getElem_toArray, List.getElem_cons_succ, List.getElem_cons_zero])
          (try simp only [Act.put, List.setIfInBounds_toArray, List.set_cons_zero, List.set_cons_succ])
          refine wpHold_take (i := 3) (v := ?_) rfl (by kernel_rfl) (by kernel_rfl) (by kernel_rfl) (fun _ _ _ h => h) (Or.inl ⟨by rfl, ?_⟩) hC0 ?_
          rotate_left
          · intro w hSw; clear hSw; go_simp; (try with_reducible rfl)
          (try simp only [List.getElem_toArray, List.getElem_cons_succ, List.getElem_cons_zero])
          (try simp only [Act.put, List.setIfInBounds_toArray, List.set_cons_zero, List.set_cons_succ])
          refine wpHold_take (i := 4) (v := ?_) rfl (by kernel_rfl) (by kernel_rfl) (by kernel_rfl) (fun _ _ _ h => h) (Or.inl ⟨by rfl, ?_⟩) hC0 ?_
          rotate_left
          · intro w hSw; clear hSw; go_simp; (try with_reducible rfl)
          (try simp only [List.getElem_toArray, List.getElem_cons_succ, List.getElem_cons_zero])
          (try simp only [Act.put, List.setIfInBounds_toArray, List.set_cons_zero, List.set_cons_succ])
          refine wpHold_take (i := 5) (v := ?_) rfl (by kernel_rfl) (by kernel_rfl) (by kernel_rfl) (fun _ _ _ h => h) (Or.inl ⟨by rfl, ?_⟩) hC0 ?_
          rotate_left
          · intro w hSw; clear hSw; go_simp; (try with_reducible rfl)
          (try simp only [List.getElem_toArray, List.getElem_cons_succ, List.getElem_cons_zero])
          (try simp only [Act.put, List.setIfInBounds_toArray, List.set_cons_zero, List.set_cons_succ])
          refine wpHold_take (i := 6) (v := ?_) rfl (by kernel_rfl) (by kernel_rfl) (by kernel_rfl) (fun _ _ _ h => h) (Or.inl ⟨by rfl, ?_⟩) hC0 ?_
          rotate_left
          · intro w hSw; (try dsimp only at hSw); obtain ⟨z0, z1⟩ := hSw; go_simp; (try with_reducible rfl)
          (try simp only [List.getElem_toArray, List.getElem_cons_succ, List.getElem_cons_zero])
          (try simp only [Act.put, List.setIfInBounds_toArray, List.set_cons_zero, List.set_cons_succ])
          refine wpHold_take (i := 7) (v := ?_) rfl (by kernel_rfl) (by kernel_rfl) (by kernel_rfl) (fun _ _ _ h => h) (Or.inl ⟨by rfl, ?_⟩) hC0 ?_
          rotate_left
          · intro w hSw; clear hSw; go_simp; (try with_reducible rfl)
          (try simp only [List.getElem_toArray, List.getElem_cons_succ, List.getElem_cons_zero])
          (try simp only [Act.put, List.setIfInBounds_toArray, List.set_cons_zero, List.set_cons_succ])
          refine wpHold_take (i := 8) (v := ?_) rfl (by kernel_rfl) (by kernel_rfl) (by kernel_rfl) (fun _ _ _ h => h) (Or.inl ⟨by rfl, ?_⟩) hC0 ?_
          rotate_left
          · intro w hSw; clear hSw; go_simp; (try with_reducible rfl)
          (try simp only [List.getElem_toArray, List.getElem_cons_succ, List.getElem_cons_zero])
          (try simp only [Act.put, List.setIfInBounds_toArray, List.set_cons_zero, List.set_cons_succ])
          refine wpHold_take (i := 9) (v := ?_) rfl (by kernel_rfl) (by kernel_rfl) (by kernel_rfl) (fun _ _ _ h => h) (Or.inl ⟨by rfl, ?_⟩) hC0 ?_
          rotate_left
          · intro w hSw; clear hSw; go_simp; (try with_reducible rfl)
          (try simp only [List.getElem_toArray, List.getElem_cons_succ, List.getElem_cons_zero])
          (try simp only [Act.put, List.setIfInBounds_toArray, List.set_cons_zero, List.set_cons_succ])
          refine wpHold_take (i := 10) (v := ?_) rfl (by kernel_rfl) (by kernel_rfl) (by kernel_rfl) (fun _ _ _ h => h) (Or.inl ⟨by rfl, ?_⟩) hC0 ?_
          rotate_left
          · intro w hSw; (try dsimp only at hSw); obtain ⟨z0, z1⟩ := hSw; go_simp; (try with_reducible rfl)
          (try simp only [List.getElem_toArray, List.getElem_cons_succ, List.getElem_cons_zero])
          (try simp only [Act.put, List.setIfInBounds_toArray, List.set_cons_zero, List.set_cons_succ])
          refine wpHold_take (i := 11) (v := ?_) rfl (by kernel_rfl) (by kernel_rfl) (by kernel_rfl) (fun _ _ _ h => h) (Or.inl ⟨by rfl, ?_⟩) hC0 ?_
          rotate_left
          · intro w hSw; clear hSw; go_simp; (try with_reducible rfl)
          (try simp only [List.getElem_toArray, List.getElem_cons_succ, List.getElem_cons_zero])
          (try simp only [Act.put, List.setIfInBounds_toArray, List.set_cons_zero, List.set_cons_succ])
          refine wpHold_take (i := 12) (v := ?_) rfl (by kernel_rfl) (by kernel_rfl) (by kernel_rfl) (fun _ _ _ h => h) (Or.inl ⟨by rfl, ?_⟩) hC0 ?_
          rotate_left
          · intro w hSw; clear hSw; go_simp; (try with_reducible rfl)
          (try simp only [List.getElem_toArray, List.getElem_cons_succ, List.getElem_cons_zero])
          (try simp only [Act.put, List.setIfInBounds_toArray, List.set_cons_zero, List.set_cons_succ])
          refine wpHold_take (i := 13) (v := ?_) rfl (by kernel_rfl) (by kernel_rfl) (by kernel_rfl) (fun _ _ _ h => h) (Or.inl ⟨by rfl, ?_⟩) hC0 ?_
          rotate_left
          · intro w hSw; clear hSw; go_simp; (try with_reducible rfl)
          (try simp only [List.getElem_toArray, List.getElem_cons_succ, List.getElem_cons_zero])
          (try simp only [Act.put, List.setIfInBounds_toArray, List.set_cons_zero, List.set_cons_succ])
          refine wpHold_take (i := 14) (v := ?_) rfl (by kernel_rfl) (by kernel_rfl) (by kernel_rfl) (fun _ _ _ h => h) (Or.inl ⟨by rfl, ?_⟩) hC0 ?_
          rotate_left
          · intro w hSw; (try dsimp only at hSw); obtain ⟨z0, z1⟩ := hSw; go_simp; (try with_reducible rfl)
          (try simp only [List.getElem_toArray, List.getElem_cons_succ, List.getElem_cons_zero])
          (try simp only [Act.put, List.setIfInBounds_toArray, List.set_cons_zero, List.set_cons_succ])
          refine wpHold_take (i := 15) (v := ?_) rfl (by kernel_rfl) (by kernel_rfl) (by kernel_rfl) (fun _ _ _ h => h) (Or.inl ⟨by rfl, ?_⟩) hC0 ?_
          rotate_left
          · intro w hSw; clear hSw; go_simp; (try with_reducible rfl)
          (try simp only [List.getElem_toArray, List.getElem_cons_succ, List.getElem_cons_zero])
          (try simp only [Act.put, List.setIfInBounds_toArray, List.set_cons_zero, List.set_cons_succ])
          refine wpHold_take (i := 16) (v := ?_) rfl (by kernel_rfl) (by kernel_rfl) (by kernel_rfl) (fun _ _ _ h => h) (Or.inl ⟨by rfl, ?_⟩) hC0 ?_
          rotate_left
          · intro w hSw; clear hSw; go_simp; (try with_reducible rfl)
          (try simp only [List.getElem_toArray, List.getElem_cons_succ, List.getElem_cons_zero])
          (try simp only [Act.put, List.setIfInBounds_toArray, List.set_cons_zero, List.set_cons_succ])
          have ba := alloc_below WD (.cells #[.int .i64 (c : Int), .int .i64 (i : Int), .int .i64 x, .int .i64 z] 71)
          have nw := news_part WD ⟨c, i, x, z⟩ 71
          have sz := alloc_size WD (.cells #[.int .i64 (c : Int), .int .i64 (i : Int), .int .i64 x, .int .i64 z] 71)
          have b1 := below_step bd0 ba
          have own1 := (unhide HST).pt.keep b1
          have sz2 : G + 1 ≤ WD.heap.size + 1 := by have h1 := (unhide HST).fr.lt; have h2 := bd0.size; omega
          obtain ⟨V1, hV1⟩ : ∃ V, WD.alloc (.cells #[.int .i64 (c : Int), .int .i64 (i : Int), .int .i64 x, .int .i64 z] 71) = V := ⟨_, rfl⟩
          obtain ⟨gn, hgn⟩ : ∃ x, WD.heap.size = x := ⟨_, rfl⟩
          rw [hV1] at own1 nw sz b1
          rw [hgn] at nw sz sz2
          have hC1 : (fun w' : World => w'.cell? ⟨G, c, none⟩ = some (.int .i64 x) ∧ w'.cell? ⟨b, o + i, none⟩ = some (.int .i64 y)) V1 := unhide HCC _ b1
          refine wpHold_one (k := 17) (by kernel_rfl) rfl (fun K hK => ?_)
          (try simp only [List.getElem_toArray, List.getElem_cons_succ, List.getElem_cons_zero])
          go_simp
          (try rw [hV1])
          (try rw [hgn])
          refine hK.out _ _ hC1 ?_
          clear hK K
          (try simp only [Act.put, List.setIfInBounds_toArray, List.set_cons_zero, List.set_cons_succ])
          refine wpHold_one (k := 18) (by kernel_rfl) rfl (fun K hK => ?_)
          refine step_append_lies _ rfl _ _ _ rfl (G + 1) 71 ti (.agg #[.int .i64 0, .int .i64 0, .int .i64 0, .int .i64 0]) 4 32 Tryd.underlying41 (unhide HI) (unhide HZ) hz1 hz2 rfl (by decide) u9 (lpt j l r k).length (qcells (lpt j l r k)) rfl own1 ⟨gn, 0, none⟩ 1 1 (qval ⟨c, i, x, z⟩) rfl rfl nw (qval_one _) (by decide) (by rw [unhide HLL]; unfold maxLen; omega) (by rw [unhide HLL]; omega) (by rw [sz]; exact sz2) (gn + 1) sz ?_
          intro g5 cap5 w5 own5 grow5 hat5 hlt5
          obtain ⟨n2, n4⟩ := (unhide HST).next (unhide HGE) b1 grow5
          have HP5 := hide (OwnV.push (t := ⟨c, i, x, z⟩) own5)
          have hC5 : (fun w' : World => w'.cell? ⟨G, c, none⟩ = some (.int .i64 x) ∧ w'.cell? ⟨b, o + i, none⟩ = some (.int .i64 y)) w5 := ⟨by rw [n2.cell (unhide HCM), unhide HX], by rw [n4.cell (p := ⟨b, o + i, none⟩) (unhide HBL)]; exact unhide HY⟩
          refine hK.out _ _ hC5 ?_
          clear hK K
          (try simp only [Act.put, List.setIfInBounds_toArray, List.set_cons_zero, List.set_cons_succ])
          refine wpHold_one (k := 19) (by kernel_rfl) rfl (fun K hK => ?_)
          (try simp only [List.getElem_toArray, List.getElem_cons_succ, List.getElem_cons_zero])
          go_simp
          refine hK.out _ _ hC5 ?_
          clear hK K
          (try simp only [Act.put, List.setIfInBounds_toArray, List.set_cons_zero, List.set_cons_succ])
          refine wpHold_done (by kernel_rfl) ?_ _
          have HCC5 : Hid (∀ W, Below w5.heap.size w5 W → (fun w' : World => w'.cell? ⟨G, c, none⟩ = some (.int .i64 x) ∧ w'.cell? ⟨b, o + i, none⟩ = some (.int .i64 y)) W) := fun W hW => ⟨by rw [(n2.keep hW).cell (unhide HCM), unhide HX], by rw [(below_step n4 hW).cell (p := ⟨b, o + i, none⟩) (unhide HBL)]; exact unhide HY⟩
          have HN2 := hide n2
          have HN4 := hide n4
          clear own5 grow5 hat5 hlt5 n2 n4 hC5 hC1 hC0 HCC own1 nw sz sz2 b1 ba bd0 hV1 hgn HST HO HI2
          go_wp2_with fail
          refine wp_region_till (fun w' : World => w'.cell? ⟨G, c, none⟩ = some (.int .i64 x) ∧ w'.cell? ⟨b, o + i, none⟩ = some (.int .i64 y)) 10 (by kernel_rfl) ?_
          have bd0 : Below w5.heap.size w5 w5.drew := (Below.refl _ _).drew
          obtain ⟨WE, hWE⟩ : ∃ W, w5.drew = W := ⟨_, rfl⟩
          rw [hWE] at bd0 ⊢
          have hC0 : (fun w' : World => w'.cell? ⟨G, c, none⟩ = some (.int .i64 x) ∧ w'.cell? ⟨b, o + i, none⟩ = some (.int .i64 y)) WE := unhide HCC5 _ bd0
          refine wpTill_pure (i := 0) (v := ?_) rfl (by kernel_rfl) (by kernel_rfl) (by kernel_rfl) (by kernel_rfl) (fun _ _ _ h => h) (Or.inl ⟨by rfl, ?_⟩) (fun _ => hC0) ?_
          rotate_left
          · intro w hSw; clear hSw; go_simp; (try with_reducible rfl)
          (try simp only [List.getElem_toArray, List.getElem_cons_succ, List.getElem_cons_zero])
          (try simp only [Act.put, List.setIfInBounds_toArray, List.set_cons_zero, List.set_cons_succ])
          refine wpTill_pure (i := 1) (v := ?_) rfl (by kernel_rfl) (by kernel_rfl) (by kernel_rfl) (by kernel_rfl) (fun _ _ _ h => h) (Or.inl ⟨by rfl, ?_⟩) (fun _ => hC0) ?_
          rotate_left
          · intro w hSw; clear hSw; go_simp; (try with_reducible rfl)
          (try simp only [List.getElem_toArray, List.getElem_cons_succ, List.getElem_cons_zero])
          (try simp only [Act.put, List.setIfInBounds_toArray, List.set_cons_zero, List.set_cons_succ])
          refine wpTill_pure (i := 2) (v := ?_) rfl (by kernel_rfl) (by kernel_rfl) (by kernel_rfl) (by kernel_rfl) (fun _ _ _ h => h) (Or.inl ⟨by rfl, ?_⟩) (fun _ => hC0) ?_
          rotate_left
          · intro w hSw; clear hSw; go_simp; (try with_reducible rfl)
          (try simp only [List.getElem_toArray, List.getElem_cons_succ, List.getElem_cons_zero])
          (try simp only [Act.put, List.setIfInBounds_toArray, List.set_cons_zero, List.set_cons_succ])
          refine wpTill_take (i := 3) (v := ?_) rfl (by kernel_rfl) (by kernel_rfl) (by kernel_rfl) (by kernel_rfl) (by kernel_rfl) (by kernel_rfl) (fun _ _ _ h => h) (Or.inl ⟨by rfl, ?_⟩) hC0 ?_
          rotate_left
          · intro w hSw; (try dsimp only at hSw); obtain ⟨z0, z1⟩ := hSw; go_simp; (try with_reducible rfl)
          (try simp only [List.getElem_toArray, List.getElem_cons_succ, List.getElem_cons_zero])
          (try simp only [Act.put, List.setIfInBounds_toArray, List.set_cons_zero, List.set_cons_succ])
          refine wpTill_pure (i := 4) (v := ?_) rfl (by kernel_rfl) (by kernel_rfl) (by kernel_rfl) (by kernel_rfl) (fun _ _ _ h => h) (Or.inl ⟨by rfl, ?_⟩) (fun _ => hC0) ?_
          rotate_left
          · intro w hSw; clear hSw; go_simp; (try with_reducible rfl)
          (try simp only [List.getElem_toArray, List.getElem_cons_succ, List.getElem_cons_zero])
          (try simp only [Act.put, List.setIfInBounds_toArray, List.set_cons_zero, List.set_cons_succ])
          refine wpTill_pure (i := 5) (v := ?_) rfl (by kernel_rfl) (by kernel_rfl) (by kernel_rfl) (by kernel_rfl) (fun _ _ _ h => h) (Or.inl ⟨by rfl, ?_⟩) (fun _ => hC0) ?_
          rotate_left
          · intro w hSw; clear hSw; go_simp; (try with_reducible rfl)
          (try simp only [List.getElem_toArray, List.getElem_cons_succ, List.getElem_cons_zero])
          (try simp only [Act.put, List.setIfInBounds_toArray, List.set_cons_zero, List.set_cons_succ])
          refine wpTill_pure (i := 6) (v := ?_) rfl (by kernel_rfl) (by kernel_rfl) (by kernel_rfl) (by kernel_rfl) (fun _ _ _ h => h) (Or.inl ⟨by rfl, ?_⟩) (fun _ => hC0) ?_
          rotate_left
          · intro w hSw; clear hSw; go_simp; (try with_reducible rfl)
          (try simp only [List.getElem_toArray, List.getElem_cons_succ, List.getElem_cons_zero])
          (try simp only [Act.put, List.setIfInBounds_toArray, List.set_cons_zero, List.set_cons_succ])
          refine wpTill_take (i := 7) (v := ?_) rfl (by kernel_rfl) (by kernel_rfl) (by kernel_rfl) (by kernel_rfl) (by kernel_rfl) (by kernel_rfl) (fun _ _ _ h => h) (Or.inl ⟨by rfl, ?_⟩) hC0 ?_
          rotate_left
          · intro w hSw; (try dsimp only at hSw); obtain ⟨z0, z1⟩ := hSw; go_simp; (try with_reducible rfl)
          (try simp only [List.getElem_toArray, List.getElem_cons_succ, List.getElem_cons_zero])
          (try simp only [Act.put, List.setIfInBounds_toArray, List.set_cons_zero, List.set_cons_succ])
          refine wpTill_pure (i := 8) (v := ?_) rfl (by kernel_rfl) (by kernel_rfl) (by kernel_rfl) (by kernel_rfl) (fun _ _ _ h => h) (Or.inl ⟨by rfl, ?_⟩) (fun _ => hC0) ?_
          rotate_left
          · intro w hSw; clear hSw; go_simp; (try with_reducible rfl)
          (try simp only [List.getElem_toArray, List.getElem_cons_succ, List.getElem_cons_zero])
          (try simp only [Act.put, List.setIfInBounds_toArray, List.set_cons_zero, List.set_cons_succ])
          refine wpTill_pure (i := 9) (v := ?_) rfl (by kernel_rfl) (by kernel_rfl) (by kernel_rfl) (by kernel_rfl) (fun _ _ _ h => h) (Or.inl ⟨by rfl, ?_⟩) (fun _ => hC0) ?_
          rotate_left
          · intro w hSw; clear hSw; go_simp; (try with_reducible rfl)
          (try simp only [List.getElem_toArray, List.getElem_cons_succ, List.getElem_cons_zero])
          (try simp only [Act.put, List.setIfInBounds_toArray, List.set_cons_zero, List.set_cons_succ])
          have y0 := ((unhide HN2).keep bd0).cell (unhide HCM)
          rw [unhide HX] at y0
          have l0 := ((unhide HN2).keep bd0).free c
          obtain ⟨n1, n3⟩ := VSt.put (nv := z) (unhide HP5) (unhide HN2) (unhide HN4) bd0 (unhide HGE) (unhide HC) (unhide HNV) (unhide HTT)
          have y2 := n3.cell (unhide HCM)
          rw [show updI (lld j l r k) c z c = z by unfold updI; rw [if_pos rfl]] at y2
          have HN1 := hide n1
          obtain ⟨W6, hW6⟩ : ∃ V, WE.setCell ⟨G, c, none⟩ (.int .i64 z) = V := ⟨_, rfl⟩
          rw [hW6] at y2 HN1
          refine wpTill_one (k := 10) (by kernel_rfl) rfl (fun K hK => ?_)
          (try simp only [List.getElem_toArray, List.getElem_cons_succ, List.getElem_cons_zero])
          go_simp
          refine hK.out _ _ (fun h => absurd (h.symm.trans (by kernel_rfl)) Bool.false_ne_true) ?_
          clear hK K
          (try simp only [Act.put, List.setIfInBounds_toArray, List.set_cons_zero, List.set_cons_succ])
          refine wpTill_done (by kernel_rfl) ?_ _
          clear n1 n3 y0 l0 hW6 HN2 HN4 HCC5 bd0 hC0 HP5 HNV HTT HC
          obtain ⟨mx, hmx⟩ : ∃ mx, (if E < z then z else E) = mx := ⟨_, rfl⟩
          rw [hmx] at HEN
          go_wp2
          exact ⟨⟨k + 1, by go_num, by rw [unhide HEN], hlt, unhide HN1⟩, by simp [intOf]; omega⟩
    · obtain rfl : k = n := by omega
      have e1 : ¬ (k : Int) < (k : Int) := by omega
      have HF : Hid (OwnV wr w.heap.size u9 (lpt M l r k)) := hS.pt.base (Nat.le_trans (Nat.le_of_eq (unhide HGE)) (Nat.le_succ G))
      have HB := hide hS.bl
      clear hS
      go_wp2
      go_ret2
      exact ⟨_, rfl, unhide HF, unhide HB⟩

end Go.Proofs.YtepgdlgifempeaaDoor
