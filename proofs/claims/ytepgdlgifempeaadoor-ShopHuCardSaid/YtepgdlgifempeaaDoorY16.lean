/- A list on several machines: the walk. -/
import Derived.Test.YtepgdlgifempeaaDoorY15
namespace Go.Proofs.YtepgdlgifempeaaDoor
open Go.RowKit Go.Sort Stb Shp Hp

set_option maxHeartbeats 8000000 in
set_option maxRecDepth 100000 in
set_option linter.unusedSimpArgs false in
theorem list_any (a : Option Addr) (n ca : Nat) (l : Nat → Int) (m : Int) (ra : Option Addr) (len rc : Nat) (r : Nat → Int) (w : World) (ha : IRow w a n ca l) (hr : IRow w ra len rc r) (hlen : len ≤ 100000) :
    Calls Tryd.prog 23 #[.slice a n ca, .int .i64 m, .slice ra len rc] w (ListPost w n l m r len) := by
  have HA := hide ha
  have HR := hide hr
  have HC := hide (checkLengths_any a n ca l m w ha)
  have HO : Hid (∀ W, Below w.heap.size w W → Calls Tryd.prog 29 #[.slice ra len rc, .int .i64 (n : Int)] W fun e w' => e = .returned (errV (ocode r len n)) ∧ Below W.heap.size W w') := fun W hW => order_any ra len rc r n W (hr.below hW) hlen
  clear ha hr
  by_cases ht : lcode n l m = 0
  case neg =>
    rw [errV_not ht] at HC
    have HE : Hid (scode n l m r len = lcode n l m) := by show scode n l m r len = _; unfold scode; rw [if_pos ht]
    obtain ⟨k, hk⟩ : ∃ k, lcode n l m = k := ⟨_, rfl⟩
    rw [hk] at HC HE ht
    have HT := hide ht
    clear hk ht HO
    go_enter Tryd.func23, Tryd.ntmps23
    go_wp2_with fail
    refine (unhide HC).mono ?_
    rintro e w1 ⟨rfl, hb1⟩
    go_wp2
    go_ret3
    refine ⟨hb1, Or.inl ?_⟩
    rw [unhide HE]
    exact ⟨unhide HT, rfl⟩
  rw [ht, errV_zero] at HC
  have HE : Hid (scode n l m r len = ocode r len n) := by show scode n l m r len = _; unfold scode; rw [if_neg (by rw [ht]; decide)]
  by_cases ho : ocode r len n = 0
  case neg =>
    rw [errV_not ho] at HO
    obtain ⟨k, hk⟩ : ∃ k, ocode r len n = k := ⟨_, rfl⟩
    rw [hk] at HO HE ho
    have HT := hide ho
    clear hk ho ht
    go_enter Tryd.func23, Tryd.ntmps23
    go_wp2_with fail
    refine (unhide HC).mono ?_
    rintro e w1 ⟨rfl, hb1⟩
    have HO1 := hide (unhide HO w1 hb1)
    have HB1 := hide hb1
    clear HO hb1
    go_wp2_with fail
    refine (unhide HO1).mono ?_
    rintro e w2 ⟨rfl, hb2⟩
    have HB2 := hide (below_step (unhide HB1) hb2)
    clear hb2
    go_wp2
    go_ret3
    refine ⟨unhide HB2, Or.inl ?_⟩
    rw [unhide HE]
    exact ⟨unhide HT, rfl⟩
  rw [ho, errV_zero] at HO
  have HE0 : Hid (scode n l m r len = 0) := by show scode n l m r len = 0; rw [unhide HE]; exact ho
  obtain ⟨gL, gR, hl⟩ := sgood_of (unhide HE0)
  subst hl
  have HGL := hide gL
  have HGR := hide gR
  have hn60 := gL.few
  have hm1 := gL.m1
  have hm20 := gL.m20
  obtain ⟨M, hM⟩ : ∃ M : Nat, m.toNat = M := ⟨_, rfl⟩
  obtain rfl : m = (M : Int) := by omega
  have HMM := hide hM
  obtain ⟨ti, hi, hz0, hz1, hz2⟩ := info_parts Tryd.infoQ
  have HI := hide hi
  have HZ := hide hz0
  clear gL gR ht ho HE hM hi hz0
  go_enter Tryd.func23, Tryd.ntmps23
  go_wp2_with fail
  refine (unhide HC).mono ?_
  rintro e w1 ⟨rfl, hb1⟩
  have HO1 := hide (unhide HO w1 hb1)
  have HB1 := hide hb1
  clear HO hb1 HC
  go_wp2_with fail
  refine (unhide HO1).mono ?_
  rintro e w2 ⟨rfl, hb2⟩
  have HB2 := hide (below_step (unhide HB1) hb2)
  have HID := hide (idle_any M w2 (by omega))
  clear hb2 HO1 HB1
  go_wp2_with fail
  refine (unhide HID).mono ?_
  rintro e w3 ⟨pp, rfl, g0, cap0, f0, hP0, hh0, hre0⟩
  have hsz2 := (unhide HB2).size
  have hb3 : Below w.heap.size w w3 := (unhide HB2).trans (hP0.bl.below (B := w.heap.size) hsz2 (fun k hk => by omega))
  obtain ⟨cs, hcs, mk⟩ := make_parts len (by omega) w3
  have hbA := alloc_below w3 (.cells cs 73)
  have hA := alloc_size w3 (.cells cs 73)
  have hnew := heap_alloc_new w3 (.cells cs 73)
  obtain ⟨w4, hw4⟩ : ∃ V, w3.alloc (.cells cs 73) = V := ⟨_, rfl⟩
  obtain ⟨q0, hq0⟩ : ∃ q, w3.heap.size = q := ⟨_, rfl⟩
  rw [hw4] at mk hbA hA hnew
  rw [hq0] at mk hA hnew
  have HST : Hid (LSt w w4 pp q0 len 0 M l r) := by
    have hge := hP0.ge
    have h1 := hP0.box.lt
    have h2 := hP0.row.lt
    refine ⟨⟨rfl, Or.inr ⟨q0, len, cs, rfl, by rw [← hq0]; exact hb3.size, hnew, Nat.zero_le _, by unfold maxLen; omega, hcs, by simp [qcells, lpt, rl, prts]⟩⟩, ⟨g0, cap0, f0, hP0.box.keep hbA, hP0.row.keep hbA, hh0, hre0, by omega, hge.2.2, by omega⟩, ⟨by omega, by omega⟩, below_step hb3 hbA⟩
  clear hP0 hh0 hre0 hsz2 hb3 hbA hA hnew hcs HID HB2 hw4 hq0
  go_wp2_with fail
  clear mk
  go_loopw [12, 13, 38] (fun vp ve vi wr => ∃ (k q qc : Nat), vi = .int .i64 (k : Int) ∧ ve = .int .i64 (lend M l r k) ∧ vp = .slice (some ⟨q, 0, none⟩) k qc ∧ k ≤ len ∧ LSt w wr pp q qc k M l r) (fun _ _ vi _ => len - (intOf vi).toNat)
  case atStart => exact ⟨0, q0, len, rfl, rfl, rfl, Nat.zero_le _, unhide HST⟩
  case round =>
    obtain ⟨k, q, qc, rfl, rfl, rfl, hk, hS⟩ := hrel
    by_cases hlt : k < len
    · obtain ⟨b, o, rfl, hbl, hc⟩ := ((unhide HA).below hS.bl).2.2 (by omega)
      obtain ⟨b', o', rfl, hbl', hc'⟩ := ((unhide HR).below hS.bl).2.2 (by omega)
      obtain ⟨g, cap, f, hbx, hrow, hheap, hre, hgw, hpg, hgq⟩ := hS.pl
      have hrg := (unhide HGR).rng k hlt
      obtain ⟨i, hi⟩ : ∃ i : Nat, (r k).toNat = i := ⟨_, rfl⟩
      have hri : r k = (i : Int) := by omega
      have hin : i < len := by omega
      have c0 := hc' k hlt
      rw [hri] at c0
      have hx0 := hc i hin
      have hxb := (unhide HGL).l i hin
      obtain ⟨x, hx⟩ : ∃ x, l i = x := ⟨_, rfl⟩
      rw [hx] at hx0 hxb
      have hbd := lld_bd (M := M) (unhide HGL) (unhide HGR) k (by omega)
      obtain ⟨m', hm'⟩ : ∃ m', M = m' + 1 := ⟨M - 1, by omega⟩
      have hP := hp_start hbx hrow hpg
      have hc0 : am (lld M l r k) M = f 0 := (root_am (by omega) hheap hre).symm
      obtain ⟨c, hcc⟩ : ∃ c, f 0 = c := ⟨_, rfl⟩
      rw [hcc] at hc0
      have hcM : c < M := by rw [← hcc]; exact hre.lt (Nat.le_refl _) (fun i hi => hi) 0 (by omega)
      have HPOP : Hid (Calls Tryd.prog 41 #[.iface 74 (.pointer (some ⟨pp, 0, none⟩))] wr fun e w' => e = .returned (macV (lld M l r k) c) ∧ ∃ f', HP (Sv wr pp g) wr w' pp g m' cap (lld M l r k) f' ∧ Heap (les (lld M l r k)) f' m' ∧ Re 0 m' (Stb.swp f 0 m') f') := by
        rw [hm'] at hP hheap
        have := hpop_any pp g m' cap (lld (m' + 1) l r k) f (Sv wr pp g) wr wr hP (by omega) hheap
        rw [hcc, ← hm'] at this
        exact this
      obtain ⟨v, hv⟩ : ∃ v, lld M l r k c = v := ⟨_, rfl⟩
      have hvb := hbd.1 c
      rw [hv] at hvb
      unfold macV at HPOP
      rw [hv] at HPOP
      have F1 : Hid (lpt M l r (k + 1) = lpt M l r k ++ [⟨c, i, v, v + x⟩]) := by show _ = _; rw [lpt_succ, hc0, hi, hv, hx]
      have F2 : Hid (lld M l r (k + 1) = Shp.upd (lld M l r k) c (v + x)) := by show _ = _; rw [lld_succ, hc0, hi, hv, hx]
      have F3 : Hid (lend M l r (k + 1) = max (lend M l r k) (v + x)) := by show _ = _; rw [lend_succ, hc0, hi, hv, hx]
      obtain ⟨nv, hnv⟩ : ∃ nv, v + x = nv := ⟨_, rfl⟩
      rw [hnv] at F1 F2 F3
      obtain ⟨E, hE⟩ : ∃ E, lend M l r k = E := ⟨_, rfl⟩
      rw [hE] at F3 ⊢
      obtain ⟨mx, hmx⟩ : ∃ mx, (if E < nv then nv else E) = mx := ⟨_, rfl⟩
      have hmx2 : max E nv = mx := by rw [← hmx]; split <;> omega
      rw [hmx2] at F3
      have e1 : (0 : Int) ≤ (k : Int) := by omega
      have e2 : (k : Int) < (len : Int) := by omega
      have e3 : (0 : Int) ≤ (i : Int) := by omega
      have e4 : (i : Int) < (len : Int) := by omega
      have e5 : IntKind.i64.wrap (v + x) = nv := by rw [IntKind.wrap_i64]; omega
      have e6 : IntKind.i64.wrap ((k : Int) + 1) = (k : Int) + 1 := by rw [IntKind.wrap_i64]; omega
      have hta := ta_mac v (c : Int)
      have HREf := hide hre
      have HS := hide hS
      have HHP : Hid (Heap (les (lld M l r k)) f M) := hheap
      have HHF : Hid (pp ≠ g ∧ g ≠ q ∧ w.heap.size ≤ g ∧ M = m' + 1 ∧ c = f 0 ∧ c < M) := ⟨hpg, hgq, hgw, hm', hcc.symm, hcM⟩
      have HXI : Hid (wr.cell? ⟨b, o + i, none⟩ = some (.int .i64 x) ∧ b < w.heap.size) := by
        refine ⟨hx0, ?_⟩
        obtain ⟨b2, o2, e, h2, _⟩ := (unhide HA).2.2 (by omega)
        injection e with e
        injection e with e
        omega
      clear hS hbx hrow hheap hre hP hc hc' hrg hri hx hbd hc0 hcc hv hvb hnv hE hmx2 hxb hgw hgq hx0 hpg hm' hcM
      go_wp2_with fail
      refine (unhide HPOP).mono ?_
      rintro e w2 ⟨rfl, f2, hP2, hh2, hre2⟩
      -- the machine's box
      have hb2 : Below w.heap.size w w2 := (unhide HS).bl.trans (hP2.bl.below (B := w.heap.size) (unhide HS).bl.size (fun k hk => ⟨Nat.lt_of_lt_of_le hk (unhide HS).bl.size, by have := (unhide HS).hpp.1; omega, by have := (unhide HHF).2.2.1; omega⟩))
      have hba := alloc_below w2 (.cells #[.int .i64 v, .int .i64 (c : Int)] 77)
      have hX0 : Box2 77 (w2.alloc (.cells #[.int .i64 v, .int .i64 (c : Int)] 77)) w2.heap.size (.int .i64 v) (.int .i64 (c : Int)) := box2_last rfl rfl
      have hsz3 := alloc_size w2 (.cells #[.int .i64 v, .int .i64 (c : Int)] 77)
      have hP3 := hP2.keep hba
      have hQ2 : OwnQ w2 w.heap.size (.slice (some ⟨q, 0, none⟩) k qc) (lpt M l r k) := (unhide HS).pt.other (hP2.bl.block q (unhide HS).pt.lt ⟨(unhide HS).pt.lt, Ne.symm (unhide HS).hpp.2, Ne.symm (unhide HHF).2.1⟩)
      have hQ3 := hQ2.keep hba
      obtain ⟨w3, hw3⟩ : ∃ V, w2.alloc (.cells #[.int .i64 v, .int .i64 (c : Int)] 77) = V := ⟨_, rfl⟩
      obtain ⟨B, hB⟩ : ∃ b, w2.heap.size = b := ⟨_, rfl⟩
      rw [hw3] at hba hX0 hP3 hQ3 hsz3
      rw [hB] at hX0 hsz3
      have q0c := hX0.c0
      have q1c := hX0.c1
      have HX3 := hide hX0
      have HB3 := hide (below_step hb2 hba)
      have HP3 := hide hP3
      have HQ3 := hide hQ3
      have HBw : Hid (w.heap.size ≤ B) := by show _ ≤ B; rw [← hB]; exact hb2.size
      have HBn : Hid (B ≠ pp ∧ B ≠ g ∧ B ≠ q) := by
        have h1 := hP2.box.lt
        have h2 := hP2.row.lt
        have h3 := hQ2.lt
        exact ⟨by omega, by omega, by omega⟩
      have HH2 : Hid (Heap (les (lld M l r k)) f2 m' ∧ Re 0 m' (Stb.swp f 0 m') f2) := ⟨hh2, hre2⟩
      have HCC : Hid (∀ W, Below w3.heap.size w3 W → (fun w' : World => w'.cell? ⟨B, 0, none⟩ = some (.int .i64 v) ∧ w'.cell? ⟨b, o + i, none⟩ = some (.int .i64 x)) W) := fun W hW => by
        refine ⟨(hX0.keep hW).c0, ?_⟩
        have hbb := below_step (below_step hb2 hba) hW
        obtain ⟨h1, h2⟩ := unhide HXI
        rw [hbb.cell (p := ⟨b, o + i, none⟩) h2, ← (unhide HS).bl.cell (p := ⟨b, o + i, none⟩) h2]
        exact h1
      clear hP2 hh2 hre2 hb2 hba hX0 hP3 hQ2 hQ3 hsz3 HPOP
      go_wp2_with fail
      refine wp_region_till (fun w' : World => w'.cell? ⟨B, 0, none⟩ = some (.int .i64 v) ∧ w'.cell? ⟨b, o + i, none⟩ = some (.int .i64 x)) 8 (by kernel_rfl) ?_
      have bd0 : Below w3.heap.size w3 w3.drew := (Below.refl _ _).drew
      obtain ⟨WD, hWD⟩ : ∃ W, w3.drew = W := ⟨_, rfl⟩
      rw [hWD] at bd0 ⊢
      have hC0 : (fun w' : World => w'.cell? ⟨B, 0, none⟩ = some (.int .i64 v) ∧ w'.cell? ⟨b, o + i, none⟩ = some (.int .i64 x)) WD := unhide HCC _ bd0
      refine wpTill_pure (i := 0) (v := ?_) rfl (by kernel_rfl) (by kernel_rfl) (by kernel_rfl) (by kernel_rfl) (fun _ _ _ h => h) (Or.inl ⟨by rfl, ?_⟩) (fun _ => hC0) ?_
      rotate_left
      · intro w hSw; clear hSw; go_simp; (try with_reducible rfl)
      (try simp only [List.getElem_toArray, List.getElem_cons_succ, List.getElem_cons_zero])
      (try simp only [Act.put, List.setIfInBounds_toArray, List.set_cons_zero, List.set_cons_succ])
      refine wpTill_take (i := 1) (v := ?_) rfl (by kernel_rfl) (by kernel_rfl) (by kernel_rfl) (by kernel_rfl) (by kernel_rfl) (by kernel_rfl) (fun _ _ _ h => h) (Or.inl ⟨by rfl, ?_⟩) hC0 ?_
      rotate_left
      · intro w hSw; (try dsimp only at hSw); obtain ⟨z0, z1⟩ := hSw; go_simp; (try with_reducible rfl)
      (try simp only [List.getElem_toArray, List.getElem_cons_succ, List.getElem_cons_zero])
      (try simp only [Act.put, List.setIfInBounds_toArray, List.set_cons_zero, List.set_cons_succ])
      refine wpTill_pure (i := 2) (v := ?_) rfl (by kernel_rfl) (by kernel_rfl) (by kernel_rfl) (by kernel_rfl) (fun _ _ _ h => h) (Or.inl ⟨by rfl, ?_⟩) (fun _ => hC0) ?_
      rotate_left
      · intro w hSw; clear hSw; go_simp; (try with_reducible rfl)
      (try simp only [List.getElem_toArray, List.getElem_cons_succ, List.getElem_cons_zero])
      (try simp only [Act.put, List.setIfInBounds_toArray, List.set_cons_zero, List.set_cons_succ])
      refine wpTill_pure (i := 3) (v := ?_) rfl (by kernel_rfl) (by kernel_rfl) (by kernel_rfl) (by kernel_rfl) (fun _ _ _ h => h) (Or.inl ⟨by rfl, ?_⟩) (fun _ => hC0) ?_
      rotate_left
      · intro w hSw; clear hSw; go_simp; (try with_reducible rfl)
      (try simp only [List.getElem_toArray, List.getElem_cons_succ, List.getElem_cons_zero])
      (try simp only [Act.put, List.setIfInBounds_toArray, List.set_cons_zero, List.set_cons_succ])
      refine wpTill_pure (i := 4) (v := ?_) rfl (by kernel_rfl) (by kernel_rfl) (by kernel_rfl) (by kernel_rfl) (fun _ _ _ h => h) (Or.inl ⟨by rfl, ?_⟩) (fun _ => hC0) ?_
      rotate_left
      · intro w hSw; clear hSw; go_simp; (try with_reducible rfl)
      (try simp only [List.getElem_toArray, List.getElem_cons_succ, List.getElem_cons_zero])
      (try simp only [Act.put, List.setIfInBounds_toArray, List.set_cons_zero, List.set_cons_succ])
      refine wpTill_take (i := 5) (v := ?_) rfl (by kernel_rfl) (by kernel_rfl) (by kernel_rfl) (by kernel_rfl) (by kernel_rfl) (by kernel_rfl) (fun _ _ _ h => h) (Or.inl ⟨by rfl, ?_⟩) hC0 ?_
      rotate_left
      · intro w hSw; (try dsimp only at hSw); obtain ⟨z0, z1⟩ := hSw; go_simp; (try with_reducible rfl)
      (try simp only [List.getElem_toArray, List.getElem_cons_succ, List.getElem_cons_zero])
      (try simp only [Act.put, List.setIfInBounds_toArray, List.set_cons_zero, List.set_cons_succ])
      refine wpTill_pure (i := 6) (v := ?_) rfl (by kernel_rfl) (by kernel_rfl) (by kernel_rfl) (by kernel_rfl) (fun _ _ _ h => h) (Or.inl ⟨by rfl, ?_⟩) (fun _ => hC0) ?_
      rotate_left
      · intro w hSw; clear hSw; go_simp; (try with_reducible rfl)
      (try simp only [List.getElem_toArray, List.getElem_cons_succ, List.getElem_cons_zero])
      (try simp only [Act.put, List.setIfInBounds_toArray, List.set_cons_zero, List.set_cons_succ])
      refine wpTill_pure (i := 7) (v := ?_) rfl (by kernel_rfl) (by kernel_rfl) (by kernel_rfl) (by kernel_rfl) (fun _ _ _ h => h) (Or.inl ⟨by rfl, ?_⟩) (fun _ => hC0) ?_
      rotate_left
      · intro w hSw; clear hSw; go_simp; (try with_reducible rfl)
      (try simp only [List.getElem_toArray, List.getElem_cons_succ, List.getElem_cons_zero])
      (try simp only [Act.put, List.setIfInBounds_toArray, List.set_cons_zero, List.set_cons_succ])
      have x0 := (unhide HX3).keep bd0
      have y0 := x0.c0
      have l0 := x0.free 0
      have X4 := hide (x0.set0 (.int .i64 nv))
      have F4 : Hid (∀ k, k ≠ B → (WD.setCell ⟨B, 0, none⟩ (.int .i64 nv)).heap[k]? = w3.heap[k]?) := fun k hk => by rw [Below.heap_setCell _ _ _ _ hk, ← hWD]; rfl
      have B4 := hide ((below_step (unhide HB3) bd0).setCell (p := ⟨B, 0, none⟩) (unhide HBw) (.int .i64 nv))
      have S4 : Hid ((WD.setCell ⟨B, 0, none⟩ (.int .i64 nv)).heap.size = w3.heap.size) := by show (WD.setCell ⟨B, 0, none⟩ (.int .i64 nv)).heap.size = _; rw [← hWD]; simp [World.setCell]
      obtain ⟨w4, hw4⟩ : ∃ V, WD.setCell ⟨B, 0, none⟩ (.int .i64 nv) = V := ⟨_, rfl⟩
      rw [hw4] at X4 F4 B4 S4
      obtain ⟨u0, y0⟩ : ∃ u : Value, WD.cell? ⟨B, 0, none⟩ = some u := ⟨_, y0⟩
      clear x0
      refine wpTill_one (k := 8) (by kernel_rfl) rfl (fun K hK => ?_)
      (try simp only [List.getElem_toArray, List.getElem_cons_succ, List.getElem_cons_zero])
      go_simp
      refine hK.out _ _ (fun h => absurd (h.symm.trans (by kernel_rfl)) Bool.false_ne_true) ?_
      clear hK K
      (try simp only [Act.put, List.setIfInBounds_toArray, List.set_cons_zero, List.set_cons_succ])
      refine wpTill_done (by kernel_rfl) ?_ _
      clear hC0 bd0 HCC hw4 hWD y0 l0
      have x4 := unhide X4
      have q0d := x4.c0
      have q1d := x4.c1
      clear q0c q1c x4
      have O4 : Hid ((w4.alloc (.cells #[.int .i64 (c : Int), .int .i64 (i : Int), .int .i64 v, .int .i64 nv] 73)).ownsRow w.heap.size 73 4 (.slice (some ⟨q, 0, none⟩) k qc) k (qcells (lpt M l r k))) := by
        have := ((unhide HQ3).other (unhide F4 q (Ne.symm (unhide HBn).2.2))).keep (alloc_below w4 (.cells #[.int .i64 (c : Int), .int .i64 (i : Int), .int .i64 v, .int .i64 nv] 73))
        unfold OwnQ at this
        rw [lpt_len] at this
        exact this
      have Q63 : Hid (k + 1 ≤ maxLen) := by show _ ≤ _; unfold maxLen; omega
      have Q8 : Hid ((k + 1) * 32 ≤ 140737488355328) := by show _ ≤ _; omega
      have QB := hide (below_step (unhide B4) (alloc_below w4 (.cells #[.int .i64 (c : Int), .int .i64 (i : Int), .int .i64 v, .int .i64 nv] 73))).size
      have HQW := hide (unhide HS).pt.base_le
      clear hta hw3 hB
      go_wp2_with (at_builtin; go_loud (refine wpList_append_lies _ rfl _ _ _ rfl w.heap.size 73 ti (.agg #[.int .i64 0, .int .i64 0, .int .i64 0, .int .i64 0]) 4 32 Tryd.underlying44 (unhide HI) (unhide HZ) hz1 hz2 rfl (by decide) (.slice (some ⟨q, 0, none⟩) k qc) k (qcells (lpt M l r k)) rfl (unhide O4) ⟨w4.heap.size, 0, none⟩ 1 1 (qval ⟨c, i, v, nv⟩) rfl rfl (news_part w4 ⟨c, i, v, nv⟩ _) (qval_one _) (by decide) (unhide Q63) (unhide Q8) (unhide QB) (w4.heap.size + 1) (alloc_size _ _) ?_; intro q5 qc5 w5 own5 grow5 hat5 hlt5; have Z5 := hide (l5_of (t := ⟨c, i, v, nv⟩) (lpt_len M l r k) (unhide HP3) (unhide F4) (unhide S4) (unhide X4) (unhide B4) (unhide HBn) ⟨(unhide HS).hpp.2, (unhide HHF).2.1⟩ (unhide HQW) own5 grow5 hat5); have q0e := (unhide Z5).box.c0; have q1e := (unhide Z5).box.c1; clear own5 grow5 hat5 hlt5 q0d q1d))
      obtain ⟨z1, z2⟩ := (unhide Z5).hp (unhide HHF).2.2.2.1 (unhide HREf) (unhide HHF).2.2.2.2.1 (unhide HH2).2 (unhide HH2).1
      have HPU := hide (hpush_any pp g m' cap (Shp.upd (lld M l r k) c nv) f2 c (Sv w5 pp g) w5 w5 z1 (by have := (unhide HHF).2.2.2.1; omega) z2)
      unfold macV at HPU
      rw [show Shp.upd (lld M l r k) c nv c = nv by unfold Shp.upd; rw [if_pos rfl]] at HPU
      clear z1 z2 O4 Q63 Q8 QB
      refine (unhide HPU).mono ?_
      rintro e w6 ⟨rfl, hpost⟩
      have HF6 : Hid (LSt w w6 pp q5 qc5 (k + 1) M l r) := by
        have h5 := unhide Z5
        have hf := unhide HHF
        have hq5 := h5.pt.lt
        have pb := pool_back (w := w) hf.2.2.2.1 (unhide HREf) hf.2.2.2.2.1 (unhide HH2).2 hq5 ⟨h5.ne.1, h5.ne.2.1⟩ hf.2.2.1 h5.bl.size hpost
        obtain ⟨g', cap', f3, h1, h2, h3⟩ := hpost
        have hpp := (unhide HS).hpp.1
        refine ⟨?_, ?_, ⟨hpp, h5.ne.1⟩, h5.bl.trans (h1.bl.below (B := w.heap.size) h5.bl.size (fun k hk => ⟨Nat.lt_of_lt_of_le hk h5.bl.size, by omega, by omega⟩))⟩
        · rw [unhide F1]
          exact h5.pt.other (h1.bl.block q5 hq5 ⟨hq5, Ne.symm h5.ne.1, Ne.symm h5.ne.2.1⟩)
        · rw [unhide F2]
          exact pb
      clear hpost HPU Z5 q0e q1e
      go_wp2_with fail
      exact ⟨⟨k + 1, q5, qc5, by go_num, by rw [unhide F3], rfl, hlt, unhide HF6⟩, by simp [intOf]; omega⟩
    · obtain rfl : k = len := by omega
      have e1 : ¬ (k : Int) < (k : Int) := by omega
      have HS := hide hS
      obtain ⟨E, hE⟩ : ∃ E, lend M l r k = E := ⟨_, rfl⟩
      rw [hE]
      have HE := hide hE
      clear hS hE
      go_wp2
      (try simp only [Exit.inBlock, Exit.then])
      (try go_wp2)
      go_ret3
      refine ⟨(unhide HS).bl, Or.inr ⟨unhide HE0, .slice (some ⟨q, 0, none⟩) k qc, ?_, ?_⟩⟩
      · rw [unhide HMM, unhide HE]; rfl
      · rw [unhide HMM]; exact (unhide HS).pt
end Go.Proofs.YtepgdlgifempeaaDoor
