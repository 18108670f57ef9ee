/- coin.lead: Conway's number of two words that can come. -/
import Derived.Test.YtdicbnchkfclaaaDoorE2
namespace Go.Proofs.YtdicbnchkfclaaaDoor
open Go.RowKit Go.Sort Go.Shelf

/-- The chances of letters. -/
def pOf (qs : List Rat) : Nat → Rat := fun l => qs[l]!

theorem rare_RS {f : Nat → Int} {qs : List Rat} {N : Nat} (hq : ∀ j, j < qs.length → RS qs[j]! 1) (hg : GoodW qs N f) : ∀ i, i ≤ N → RS (Kmp.rare f (pOf qs) i) (i + 1)
  | 0, _ => one_RS'
  | i + 1, h => by
    obtain ⟨h1, h2, h3⟩ := hg.2 i (by omega)
    exact RS.div' (rare_RS hq hg i (by omega)) (hq _ (by omega)) h3
theorem lead_RS {g f : Nat → Int} {qs : List Rat} {M N : Nat} (hq : ∀ j, j < qs.length → RS qs[j]! 1) (hg : GoodW qs N f) : ∀ i, i ≤ N → RS (Kmp.lead g f (pOf qs) M i) (i * 16 + 1)
  | 0, _ => RS.zero
  | i + 1, h => by
    have h1 := lead_RS (g := g) (M := M) hq hg i (by omega)
    have h2 := rare_RS hq hg (i + 1) h
    have h12 := hg.1.2
    show RS (Kmp.lead g f (pOf qs) M i + if Kmp.Ov g f M (i + 1) then _ else _) _
    split
    · exact (h1.add h2).mono (by omega)
    · exact (h1.add RS.zero).mono (by omega)
theorem lead_step (g f : Nat → Int) (p : Nat → Rat) (M i : Nat) : Kmp.lead g f p M (i + 1) = Kmp.lead g f p M i + if Kmp.Ov g f M (i + 1) then Kmp.rare f p (i + 1) else 0 := rfl

set_option maxHeartbeats 8000000 in
set_option maxRecDepth 100000 in
set_option linter.unusedSimpArgs false in
theorem lead_any (v : Value) (qs : List Rat) (a a' : Option Addr) (M c N c' : Nat) (g f : Nat → Int) (w : World) (hL : LawIs w v qs) (ha : IRow w a M c g) (hb : IRow w a' N c' f) (hq : ∀ j, j < qs.length → RS qs[j]! 1) (hgM : GoodW qs M g) (hgN : GoodW qs N f) :
    Calls Tryd.prog 60 #[v, .slice a M c, .slice a' N c'] w fun e w' => ∃ v, e = .returned v ∧ RatIs w' v (Kmp.lead g f (pOf qs) M (min M N)) ∧ Below w.heap.size w w' := by
  have HA := hide ha
  have HF := hide hb
  have HQ := hide hq
  have HGN := hide hgN
  have m1 := hgM.1
  have n1 := hgN.1
  have hlen : 0 < qs.length := by have := hgN.2 0 (by omega); omega
  obtain ⟨al, cl, rfl, l1, l2, l3⟩ := hL
  obtain ⟨bq, oq, rfl, hbq, hcq⟩ := l3 hlen
  obtain ⟨ha1, ha2, ha3⟩ := ha
  obtain ⟨hb1, hb2, hb3⟩ := hb
  obtain ⟨b, o, rfl, hbl, hc⟩ := ha3 (by omega)
  obtain ⟨b', o', rfl, hbl', hc'⟩ := hb3 (by omega)
  have HCQ := hide hcq
  have HC' := hide hc'
  have KKe : KK = 1099511627776 := rfl
  have HDIV : Hid (∀ W v v' q q', RatIs W v q → RatIs W v' q' → RS q 400 → RS q' 400 → q'.num ≠ 0 → Calls Tryd.prog 62 #[v, v'] W fun e w' => ∃ v, e = .returned v ∧ RatIs w' v (q / q') ∧ Below W.heap.size W w') := fun W v v' q q' h h' r r' z => cdivided_any v v' q q' W h h' 400 r r' (by rw [KKe]; omega) z
  have HADD : Hid (∀ W v v' q q', RatIs W v q → RatIs W v' q' → RS q 400 → RS q' 400 → Calls Tryd.prog 15 #[v, v'] W fun e w' => ∃ v, e = .returned v ∧ RatIs w' v (q + q') ∧ Below W.heap.size W w') := fun W v v' q q' h h' r r' => addR_any v v' q q' W h h' 400 r r' (by rw [KKe]; omega)
  obtain ⟨K, hK⟩ : ∃ K, min M N = K := ⟨_, rfl⟩
  rw [hK]
  have HB_0 := hide (below_step (alloc_below w (.cells #[.bool false, .slice none 0 0, .slice none 0 0] 36)) (alloc_below _ (.cells #[.bool false, .slice none 0 0, .slice none 0 0] 36)))
  have HX_b6_0 := hide ((BoxIs.new (w := w) (t := zTri) (q := 0) (rat_zero _)).keep (alloc_below _ (.cells #[.bool false, .slice none 0 0, .slice none 0 0] 36)))
  have HX_b7_0 := hide (BoxIs.new (w := w.alloc (.cells #[.bool false, .slice none 0 0, .slice none 0 0] 36)) (t := zTri) (q := 0) (rat_zero _))
  have e4 : (w.alloc (.cells #[.bool false, .slice none 0 0, .slice none 0 0] 36)).heap.size = w.heap.size + 1 := alloc_size _ _
  obtain ⟨W0, hW0⟩ : ∃ W, (w.alloc (.cells #[.bool false, .slice none 0 0, .slice none 0 0] 36)).alloc (.cells #[.bool false, .slice none 0 0, .slice none 0 0] 36) = W := ⟨_, rfl⟩
  rw [show (w.alloc (.cells #[.bool zTri.s, .slice zTri.a1 zTri.n1 zTri.c1, .slice zTri.a2 zTri.n2 zTri.c2] 36)).alloc (.cells #[.bool false, .slice none 0 0, .slice none 0 0] 36) = W0 from hW0] at HX_b6_0
  rw [show (w.alloc (.cells #[.bool false, .slice none 0 0, .slice none 0 0] 36)).alloc (.cells #[.bool zTri.s, .slice zTri.a1 zTri.n1 zTri.c1, .slice zTri.a2 zTri.n2 zTri.c2] 36) = W0 from hW0, e4] at HX_b7_0
  rw [hW0] at HB_0
  have HWE := hide hW0
  have HWH : Hid (∀ W, Calls Tryd.prog 17 #[.int .i64 1] W fun e w' => ∃ v, e = .returned v ∧ RatIs w' v ((1 : Int) : Rat) ∧ Below W.heap.size W w') := fun W => whole_any 1 (by decide) (by decide) W
  have emin : min (M : Int) (N : Int) = (K : Int) := by omega
  have HKE := hide hK
  have hKM : K ≤ M := by omega
  have hKN : K ≤ N := by omega
  clear ha1 ha2 ha3 hb1 hb2 hb3 hc hc' l3 hcq e4 hW0 hgM hgN hq hK hlen
  go_enter Tryd.func60, Tryd.ntmps60
  go_wp2_with fail
  rw [unhide HWE]
  clear HWE
  obtain ⟨b6, hb6⟩ : ∃ b, w.heap.size = b := ⟨_, rfl⟩
  obtain ⟨b7, hb7⟩ : ∃ b, b6 + 1 = b := ⟨_, rfl⟩
  have HG_b6 : Hid (w.heap.size ≤ b6) := by rw [hb6]; exact Nat.le_refl _
  have HG_b7 : Hid (w.heap.size ≤ b7) := show _ ≤ _ by omega
  have HL_b6_b7 : Hid (b6 < b7) := show _ < _ by omega
  rw [hb6] at HX_b6_0 HX_b7_0
  rw [hb7] at HX_b7_0
  simp only [hb6, hb7]
  have Hb6 := hide hb6
  clear hb6 hb7
  refine (unhide HWH _).mono ?_
  rintro e w_1 ⟨v8, rfl, hv8, hbx⟩
  obtain ⟨t8, rfl, hr_1⟩ := tri_of hv8
  simp only [Tri.val]
  have HL_b6_b8 := hide (Nat.lt_of_lt_of_le (unhide HX_b6_0).lt hbx.size)
  have HL_b7_b8 := hide (Nat.lt_of_lt_of_le (unhide HX_b7_0).lt hbx.size)
  have HG_b8 := hide (below_step (unhide HB_0) hbx).size
  have hb_1 := below_step hbx (alloc_below w_1 (.cells #[.bool t8.s, .slice t8.a1 t8.n1 t8.c1, .slice t8.a2 t8.n2 t8.c2] 36))
  have HB_2 := hide (below_step (unhide HB_0) hb_1)
  have HX_b6_2 := hide ((unhide HX_b6_0).keep hb_1)
  have HX_b7_2 := hide ((unhide HX_b7_0).keep hb_1)
  clear HB_0 HX_b6_0 HX_b7_0
  have HX_b8_1 := hide (BoxIs.new hr_1)
  obtain ⟨Wb8, hW_1⟩ : ∃ W, w_1.alloc (.cells #[.bool t8.s, .slice t8.a1 t8.n1 t8.c1, .slice t8.a2 t8.n2 t8.c2] 36) = W := ⟨_, rfl⟩
  obtain ⟨b8, hc_1⟩ : ∃ b, w_1.heap.size = b := ⟨_, rfl⟩
  rw [hW_1] at HB_2 HX_b6_2 HX_b7_2 HX_b8_1
  rw [hc_1] at HX_b8_1 HL_b6_b8 HL_b7_b8 HG_b8
  clear hv8 hr_1 hbx hb_1
  go_wp2_with fail
  clear hW_1 hc_1
  go_loopw [17] (fun vi wr => ∃ (i : Nat) (t7 t8 : Tri), vi = .int .i64 (i : Int) ∧ i ≤ K ∧ Below w.heap.size w wr ∧ BoxIs wr b6 zTri 0 ∧ BoxIs wr b7 t7 (Kmp.lead g f (pOf qs) M i) ∧ BoxIs wr b8 t8 (Kmp.rare f (pOf qs) i)) (fun vi _ => K - (intOf vi).toNat)
  case atStart => exact ⟨0, zTri, t8, rfl, Nat.zero_le _, unhide HB_2, unhide HX_b6_2, unhide HX_b7_2, unhide HX_b8_1⟩
  case round =>
    obtain ⟨i, t7, t8, rfl, hi, bl, X6, X7, X8⟩ := hrel
    have HB_r := hide bl
    have HX_b6_r := hide X6
    have HX_b7_r := hide X7
    have HX_b8_r := hide X8
    clear bl X6 X7 X8 HB_2 HX_b6_2 HX_b7_2 HX_b8_1 HWH
    by_cases hlt : i < K
    · have i1 : (i : Int) < (K : Int) := by omega
      have i2 : (0 : Int) ≤ (i : Int) := by omega
      have i3 : (i : Int) < (N : Int) := by omega
      obtain ⟨f1, f2, f3⟩ := (unhide HGN).2 i (by omega)
      have cf := unhide HC' i (by omega)
      obtain ⟨n, hn⟩ : ∃ n : Nat, f i = (n : Int) := ⟨(f i).toNat, by omega⟩
      rw [hn] at f1 f2 f3 cf
      rw [Int.toNat_natCast] at f3
      obtain ⟨s', p1, p2, n1, d1, n2, d2, k0, k1, k2, r⟩ := unhide HCQ n (by omega)
      obtain ⟨tx, rfl, rfl, rfl, rfl, rfl, rfl, rfl⟩ : ∃ t : Tri, s' = t.s ∧ p1 = t.a1 ∧ p2 = t.a2 ∧ n1 = t.n1 ∧ d1 = t.c1 ∧ n2 = t.n2 ∧ d2 = t.c2 := ⟨⟨s', p1, p2, n1, d1, n2, d2⟩, rfl, rfl, rfl, rfl, rfl, rfl, rfl⟩
      have bd0 : Below wr.heap.size wr wr.drew := (Below.refl _ _).drew
      have HCC : Hid (∀ W, Below wr.heap.size wr W → (fun w' : World => (w'.cell? ⟨b8, 0, none⟩ = some (.bool t8.s) ∧ w'.cell? ⟨b8, 1, none⟩ = some (.slice t8.a1 t8.n1 t8.c1) ∧ w'.cell? ⟨b8, 2, none⟩ = some (.slice t8.a2 t8.n2 t8.c2)) ∧ w'.cell? ⟨b', o' + i, none⟩ = some (.int .i64 (n : Int)) ∧ w'.cell? ⟨bq, oq + n * 3, none⟩ = some (.bool tx.s) ∧ w'.cell? ⟨bq, oq + n * 3 + 1, none⟩ = some (.slice tx.a1 tx.n1 tx.c1) ∧ w'.cell? ⟨bq, oq + n * 3 + 2, none⟩ = some (.slice tx.a2 tx.n2 tx.c2)) W) := fun W hW => ⟨(unhide HX_b8_r).cells W hW, by
        have bb := below_step (unhide HB_r) hW
        rw [bb.cell (p := ⟨b', o' + i, none⟩) hbl', bb.cell (p := ⟨bq, oq + n * 3, none⟩) hbq, bb.cell (p := ⟨bq, oq + n * 3 + 1, none⟩) hbq, bb.cell (p := ⟨bq, oq + n * 3 + 2, none⟩) hbq]
        exact ⟨cf, k0, k1, k2⟩⟩
      have rx : RatIs wr.drew tx.val qs[n]! := (r.below (unhide HB_r)).below bd0
      have rsr := (rare_RS (unhide HQ) (unhide HGN) i (by omega)).mono (show i + 1 ≤ 400 by omega)
      have HSU := hide (unhide HDIV wr.drew _ _ _ _ ((unhide HX_b8_r).2.below bd0) rx rsr ((unhide HQ n (by omega)).mono (by omega)) f3)
      have hrs : Kmp.rare f (pOf qs) (i + 1) = Kmp.rare f (pOf qs) i / qs[n]! := by
        show _ / qs[(f i).toNat]! = _
        rw [hn, Int.toNat_natCast]
      rw [← hrs] at HSU
      have HR8 := hide ((rare_RS (unhide HQ) (unhide HGN) (i + 1) (by omega)).mono (show i + 1 + 1 ≤ 400 by omega))
      have HR7 := hide ((lead_RS (g := g) (M := M) (unhide HQ) (unhide HGN) i (by omega)).mono (show i * 16 + 1 ≤ 400 by omega))
      have HLS := hide (lead_step g f (pOf qs) M i)
      obtain ⟨R1, hR1⟩ : ∃ x, Kmp.rare f (pOf qs) (i + 1) = x := ⟨_, rfl⟩
      rw [hR1] at HSU HR8 HLS
      have HR1 := hide hR1
      obtain ⟨L1, hL1⟩ : ∃ x, Kmp.lead g f (pOf qs) M (i + 1) = x := ⟨_, rfl⟩
      rw [hL1] at HLS
      have HL1 := hide hL1
      clear hrs hR1 hL1
      generalize Kmp.rare f (pOf qs) i = R0 at *
      generalize Kmp.lead g f (pOf qs) M i = L0 at *
      have j1 : (n : Int) < (qs.length : Int) := by omega
      have j2 : (0 : Int) ≤ (n : Int) := by omega
      clear k0 k1 k2 r rx rsr cf hn f1 f2 f3 HC' HCQ HQ HGN
      go_wp2_with fail
      refine wp_region_till (fun w' : World => (w'.cell? ⟨b8, 0, none⟩ = some (.bool t8.s) ∧ w'.cell? ⟨b8, 1, none⟩ = some (.slice t8.a1 t8.n1 t8.c1) ∧ w'.cell? ⟨b8, 2, none⟩ = some (.slice t8.a2 t8.n2 t8.c2)) ∧ w'.cell? ⟨b', o' + i, none⟩ = some (.int .i64 (n : Int)) ∧ w'.cell? ⟨bq, oq + n * 3, none⟩ = some (.bool tx.s) ∧ w'.cell? ⟨bq, oq + n * 3 + 1, none⟩ = some (.slice tx.a1 tx.n1 tx.c1) ∧ w'.cell? ⟨bq, oq + n * 3 + 2, none⟩ = some (.slice tx.a2 tx.n2 tx.c2)) 9 (by kernel_rfl) ?_
      have hC0 : (fun w' : World => (w'.cell? ⟨b8, 0, none⟩ = some (.bool t8.s) ∧ w'.cell? ⟨b8, 1, none⟩ = some (.slice t8.a1 t8.n1 t8.c1) ∧ w'.cell? ⟨b8, 2, none⟩ = some (.slice t8.a2 t8.n2 t8.c2)) ∧ w'.cell? ⟨b', o' + i, none⟩ = some (.int .i64 (n : Int)) ∧ w'.cell? ⟨bq, oq + n * 3, none⟩ = some (.bool tx.s) ∧ w'.cell? ⟨bq, oq + n * 3 + 1, none⟩ = some (.slice tx.a1 tx.n1 tx.c1) ∧ w'.cell? ⟨bq, oq + n * 3 + 2, none⟩ = some (.slice tx.a2 tx.n2 tx.c2)) wr.drew := unhide HCC _ bd0
      refine wpTill_take (i := 0) (v := ?_) rfl (by kernel_rfl) (by kernel_rfl) (by kernel_rfl) (by kernel_rfl) (by kernel_rfl) (by kernel_rfl) (fun _ _ _ h => h) (Or.inl ⟨by rfl, ?_⟩) hC0 ?_
      rotate_left
      · intro w hSw; (try dsimp only at hSw); obtain ⟨⟨z0, z1, z2⟩, z3, z4, z5, z6⟩ := hSw; go_simp; (try with_reducible rfl)
      (try simp only [List.getElem_toArray, List.getElem_cons_succ, List.getElem_cons_zero])
      (try simp only [Act.put, List.setIfInBounds_toArray, List.set_cons_zero, List.set_cons_succ])
      refine wpTill_pure (i := 1) (v := ?_) rfl (by kernel_rfl) (by kernel_rfl) (by kernel_rfl) (by kernel_rfl) (fun _ _ _ h => h) (Or.inl ⟨by rfl, ?_⟩) (fun _ => hC0) ?_
      rotate_left
      · intro w hSw; clear hSw; go_simp; (try with_reducible rfl)
      (try simp only [List.getElem_toArray, List.getElem_cons_succ, List.getElem_cons_zero])
      (try simp only [Act.put, List.setIfInBounds_toArray, List.set_cons_zero, List.set_cons_succ])
      refine wpTill_pure (i := 2) (v := ?_) rfl (by kernel_rfl) (by kernel_rfl) (by kernel_rfl) (by kernel_rfl) (fun _ _ _ h => h) (Or.inl ⟨by rfl, ?_⟩) (fun _ => hC0) ?_
      rotate_left
      · intro w hSw; clear hSw; go_simp; (try with_reducible rfl)
      (try simp only [List.getElem_toArray, List.getElem_cons_succ, List.getElem_cons_zero])
      (try simp only [Act.put, List.setIfInBounds_toArray, List.set_cons_zero, List.set_cons_succ])
      refine wpTill_pure (i := 3) (v := ?_) rfl (by kernel_rfl) (by kernel_rfl) (by kernel_rfl) (by kernel_rfl) (fun _ _ _ h => h) (Or.inl ⟨by rfl, ?_⟩) (fun _ => hC0) ?_
      rotate_left
      · intro w hSw; clear hSw; go_simp; (try with_reducible rfl)
      (try simp only [List.getElem_toArray, List.getElem_cons_succ, List.getElem_cons_zero])
      (try simp only [Act.put, List.setIfInBounds_toArray, List.set_cons_zero, List.set_cons_succ])
      refine wpTill_pure (i := 4) (v := ?_) rfl (by kernel_rfl) (by kernel_rfl) (by kernel_rfl) (by kernel_rfl) (fun _ _ _ h => h) (Or.inl ⟨by rfl, ?_⟩) (fun _ => hC0) ?_
      rotate_left
      · intro w hSw; clear hSw; go_simp; (try with_reducible rfl)
      (try simp only [List.getElem_toArray, List.getElem_cons_succ, List.getElem_cons_zero])
      (try simp only [Act.put, List.setIfInBounds_toArray, List.set_cons_zero, List.set_cons_succ])
      refine wpTill_take (i := 5) (v := ?_) rfl (by kernel_rfl) (by kernel_rfl) (by kernel_rfl) (by kernel_rfl) (by kernel_rfl) (by kernel_rfl) (fun _ _ _ h => h) (Or.inl ⟨by rfl, ?_⟩) hC0 ?_
      rotate_left
      · intro w hSw; (try dsimp only at hSw); obtain ⟨⟨z0, z1, z2⟩, z3, z4, z5, z6⟩ := hSw; go_simp; (try with_reducible rfl)
      (try simp only [List.getElem_toArray, List.getElem_cons_succ, List.getElem_cons_zero])
      (try simp only [Act.put, List.setIfInBounds_toArray, List.set_cons_zero, List.set_cons_succ])
      refine wpTill_pure (i := 6) (v := ?_) rfl (by kernel_rfl) (by kernel_rfl) (by kernel_rfl) (by kernel_rfl) (fun _ _ _ h => h) (Or.inl ⟨by rfl, ?_⟩) (fun _ => hC0) ?_
      rotate_left
      · intro w hSw; clear hSw; go_simp; (try with_reducible rfl)
      (try simp only [List.getElem_toArray, List.getElem_cons_succ, List.getElem_cons_zero])
      (try simp only [Act.put, List.setIfInBounds_toArray, List.set_cons_zero, List.set_cons_succ])
      refine wpTill_take (i := 7) (v := ?_) rfl (by kernel_rfl) (by kernel_rfl) (by kernel_rfl) (by kernel_rfl) (by kernel_rfl) (by kernel_rfl) (fun _ _ _ h => h) (Or.inl ⟨by rfl, ?_⟩) hC0 ?_
      rotate_left
      · intro w hSw; (try dsimp only at hSw); obtain ⟨⟨z0, z1, z2⟩, z3, z4, z5, z6⟩ := hSw; go_simp; (try with_reducible rfl)
      (try simp only [List.getElem_toArray, List.getElem_cons_succ, List.getElem_cons_zero])
      (try simp only [Act.put, List.setIfInBounds_toArray, List.set_cons_zero, List.set_cons_succ])
      refine wpTill_one (k := 8) (by kernel_rfl) rfl (fun K hK => ?_)
      (try simp only [List.getElem_toArray, List.getElem_cons_succ, List.getElem_cons_zero])
      go_simp
      refine (unhide HSU).mono ?_
      rintro e w8 ⟨v8, rfl, hv8, hb8⟩
      have b8b := below_step bd0 hb8
      have hC8 : (fun w' : World => (w'.cell? ⟨b8, 0, none⟩ = some (.bool t8.s) ∧ w'.cell? ⟨b8, 1, none⟩ = some (.slice t8.a1 t8.n1 t8.c1) ∧ w'.cell? ⟨b8, 2, none⟩ = some (.slice t8.a2 t8.n2 t8.c2)) ∧ w'.cell? ⟨b', o' + i, none⟩ = some (.int .i64 (n : Int)) ∧ w'.cell? ⟨bq, oq + n * 3, none⟩ = some (.bool tx.s) ∧ w'.cell? ⟨bq, oq + n * 3 + 1, none⟩ = some (.slice tx.a1 tx.n1 tx.c1) ∧ w'.cell? ⟨bq, oq + n * 3 + 2, none⟩ = some (.slice tx.a2 tx.n2 tx.c2)) w8 := unhide HCC _ b8b
      obtain ⟨t9, rfl, hr9⟩ := tri_of hv8
      have Y8 := (unhide HX_b8_r).keep b8b
      have Y7 := (unhide HX_b7_r).keep b8b
      have Y6 := (unhide HX_b6_r).keep b8b
      have ⟨l0, l1, l2⟩ := Y8.free
      have ⟨⟨y0, y1, y2⟩, _⟩ := hC8
      have HX_b8_s := hide (Y8.set hr9)
      have HX_b7_s := hide (Y7.other Y8 (Nat.ne_of_lt (unhide HL_b7_b8)) (.bool t9.s) (.slice t9.a1 t9.n1 t9.c1) (.slice t9.a2 t9.n2 t9.c2))
      have HX_b6_s := hide (Y6.other Y8 (Nat.ne_of_lt (unhide HL_b6_b8)) (.bool t9.s) (.slice t9.a1 t9.n1 t9.c1) (.slice t9.a2 t9.n2 t9.c2))
      have HB_s := hide ((((below_step (unhide HB_r) b8b).setCell (p := ⟨b8, 0, none⟩) (unhide HG_b8) (.bool t9.s)).setCell (p := ⟨b8, 1, none⟩) (unhide HG_b8) (.slice t9.a1 t9.n1 t9.c1)).setCell (p := ⟨b8, 2, none⟩) (unhide HG_b8) (.slice t9.a2 t9.n2 t9.c2))
      simp only [Tri.val]
      clear Y8 Y7 Y6 hv8 hr9
      refine hK.out _ _ (fun _ => hC8) ?_
      clear hK K
      (try simp only [Act.put, List.setIfInBounds_toArray, List.set_cons_zero, List.set_cons_succ])
      refine wpTill_one (k := 9) (by kernel_rfl) rfl (fun K hK => ?_)
      (try simp only [List.getElem_toArray, List.getElem_cons_succ, List.getElem_cons_zero])
      go_simp
      refine hK.out _ _ (fun h => absurd (h.symm.trans (by kernel_rfl)) Bool.false_ne_true) ?_
      clear hK K
      (try simp only [Act.put, List.setIfInBounds_toArray, List.set_cons_zero, List.set_cons_succ])
      refine wpTill_done (by kernel_rfl) ?_ _
      clear hC0 hC8 bd0 b8b hb8 y0 y1 y2 l0 l1 l2 HCC HSU HX_b8_r HX_b7_r HX_b6_r HB_r
      obtain ⟨Ws, hWs⟩ : ∃ W, ((w8.setCell ⟨b8, 0, none⟩ (.bool t9.s)).setCell ⟨b8, 1, none⟩ (.slice t9.a1 t9.n1 t9.c1)).setCell ⟨b8, 2, none⟩ (.slice t9.a2 t9.n2 t9.c2) = W := ⟨_, rfl⟩
      rw [hWs] at HX_b8_s HX_b7_s HX_b6_s HB_s
      simp only [hWs]
      clear hWs
      obtain ⟨d, hd⟩ : ∃ d, M - (i + 1) = d := ⟨_, rfl⟩
      have hMc := (unhide HA).1
      have hNc := (unhide HF).1
      have q1 : IntKind.i64.wrap ((M : Int) - ((i : Int) + 1)) = (d : Int) := by rw [IntKind.wrap_i64]; omega
      have q2 : (d : Int) ≤ (M : Int) := by omega
      have q3 : M - d = i + 1 := by omega
      have q4 : c ≠ d := by omega
      have q5 : (i : Int) + 1 ≤ (c' : Int) := by omega
      have q6 : c' ≠ 0 := by omega
      have q7 : ((i : Int) + 1).toNat = i + 1 := by omega
      have q8 : (0 : Int) ≤ (i : Int) + 1 := by omega
      have q9 : (0 : Int) ≤ (d : Int) := by omega
      have q10 : (d : Int) ≤ (c : Int) := by omega
      have q11 : (M : Int) ≤ (c : Int) := by omega
      have HEQ := hide (equal_any (some ⟨b, o + d, none⟩) (some ⟨b', o', none⟩) (i + 1) (c - d) (i + 1) c' (fun j => g (M - (i + 1) + j)) f Ws.drew ((by have h := (unhide HA).suffix d (by omega); rw [q3] at h; rw [hd]; exact h.below (below_step (unhide HB_s) ((Below.refl _ _).drew)))) (((unhide HF).firsts (i + 1) (by omega)).below (below_step (unhide HB_s) ((Below.refl _ _).drew))))
      clear hd hMc hNc
      have hbo : likeB (i + 1) (i + 1) (fun j => g (M - (i + 1) + j)) f = decide (Kmp.Ov g f M (i + 1)) := by
        rw [Bool.eq_iff_iff, likeB_true, decide_eq_true_iff]
        exact ⟨fun h => h.2, fun h => ⟨rfl, h⟩⟩
      rw [hbo] at HEQ
      clear hbo
      go_wp2_with fail
      refine wp_region_hold (fun _ => True) (by kernel_rfl) ?_
      have hC0 : (fun _ : World => True) Ws.drew := trivial
      refine wpHold_take (i := 0) (v := ?_) rfl (by kernel_rfl) (by kernel_rfl) (by kernel_rfl) (fun _ _ _ h => h) (Or.inl ⟨by rfl, ?_⟩) hC0 ?_
      rotate_left
      · intro w hSw; clear hSw; go_simp; (try with_reducible rfl)
      (try simp only [List.getElem_toArray, List.getElem_cons_succ, List.getElem_cons_zero])
      (try simp only [Act.put, List.setIfInBounds_toArray, List.set_cons_zero, List.set_cons_succ])
      refine wpHold_take (i := 1) (v := ?_) rfl (by kernel_rfl) (by kernel_rfl) (by kernel_rfl) (fun _ _ _ h => h) (Or.inl ⟨by rfl, ?_⟩) hC0 ?_
      rotate_left
      · intro w hSw; clear hSw; go_simp; (try with_reducible rfl)
      (try simp only [List.getElem_toArray, List.getElem_cons_succ, List.getElem_cons_zero])
      (try simp only [Act.put, List.setIfInBounds_toArray, List.set_cons_zero, List.set_cons_succ])
      refine wpHold_take (i := 2) (v := ?_) rfl (by kernel_rfl) (by kernel_rfl) (by kernel_rfl) (fun _ _ _ h => h) (Or.inl ⟨by rfl, ?_⟩) hC0 ?_
      rotate_left
      · intro w hSw; clear hSw; go_simp; (try with_reducible rfl)
      (try simp only [List.getElem_toArray, List.getElem_cons_succ, List.getElem_cons_zero])
      (try simp only [Act.put, List.setIfInBounds_toArray, List.set_cons_zero, List.set_cons_succ])
      refine wpHold_take (i := 3) (v := ?_) rfl (by kernel_rfl) (by kernel_rfl) (by kernel_rfl) (fun _ _ _ h => h) (Or.inl ⟨by rfl, ?_⟩) hC0 ?_
      rotate_left
      · intro w hSw; clear hSw; go_simp; (try with_reducible rfl)
      (try simp only [List.getElem_toArray, List.getElem_cons_succ, List.getElem_cons_zero])
      (try simp only [Act.put, List.setIfInBounds_toArray, List.set_cons_zero, List.set_cons_succ])
      refine wpHold_take (i := 4) (v := ?_) rfl (by kernel_rfl) (by kernel_rfl) (by kernel_rfl) (fun _ _ _ h => h) (Or.inl ⟨by rfl, ?_⟩) hC0 ?_
      rotate_left
      · intro w hSw; clear hSw; go_simp; (try with_reducible rfl)
      (try simp only [List.getElem_toArray, List.getElem_cons_succ, List.getElem_cons_zero])
      (try simp only [Act.put, List.setIfInBounds_toArray, List.set_cons_zero, List.set_cons_succ])
      refine wpHold_take (i := 5) (v := ?_) rfl (by kernel_rfl) (by kernel_rfl) (by kernel_rfl) (fun _ _ _ h => h) (Or.inl ⟨by rfl, ?_⟩) hC0 ?_
      rotate_left
      · intro w hSw; clear hSw; go_simp; (try with_reducible rfl)
      (try simp only [List.getElem_toArray, List.getElem_cons_succ, List.getElem_cons_zero])
      (try simp only [Act.put, List.setIfInBounds_toArray, List.set_cons_zero, List.set_cons_succ])
      refine wpHold_take (i := 6) (v := ?_) rfl (by kernel_rfl) (by kernel_rfl) (by kernel_rfl) (fun _ _ _ h => h) (Or.inl ⟨by rfl, ?_⟩) hC0 ?_
      rotate_left
      · intro w hSw; clear hSw; go_simp; (try with_reducible rfl)
      (try simp only [List.getElem_toArray, List.getElem_cons_succ, List.getElem_cons_zero])
      (try simp only [Act.put, List.setIfInBounds_toArray, List.set_cons_zero, List.set_cons_succ])
      refine wpHold_take (i := 7) (v := ?_) rfl (by kernel_rfl) (by kernel_rfl) (by kernel_rfl) (fun _ _ _ h => h) (Or.inl ⟨by rfl, ?_⟩) hC0 ?_
      rotate_left
      · intro w hSw; clear hSw; go_simp; (try with_reducible rfl)
      (try simp only [List.getElem_toArray, List.getElem_cons_succ, List.getElem_cons_zero])
      (try simp only [Act.put, List.setIfInBounds_toArray, List.set_cons_zero, List.set_cons_succ])
      refine wpHold_take (i := 8) (v := ?_) rfl (by kernel_rfl) (by kernel_rfl) (by kernel_rfl) (fun _ _ _ h => h) (Or.inl ⟨by rfl, ?_⟩) hC0 ?_
      rotate_left
      · intro w hSw; clear hSw; go_simp; (try with_reducible rfl)
      (try simp only [List.getElem_toArray, List.getElem_cons_succ, List.getElem_cons_zero])
      (try simp only [Act.put, List.setIfInBounds_toArray, List.set_cons_zero, List.set_cons_succ])
      refine wpHold_one (k := 9) (by kernel_rfl) rfl (fun K hK => ?_)
      (try simp only [List.getElem_toArray, List.getElem_cons_succ, List.getElem_cons_zero])
      go_simp
      refine (unhide HEQ).mono ?_
      rintro e w9 ⟨rfl, kq, hw9⟩
      have b9 : Below Ws.heap.size Ws w9 := by rw [hw9]; exact below_step ((Below.refl _ _).drew) (below_drewN _ _)
      have hC9 : (fun _ : World => True) w9 := trivial
      have HX_b8_t := hide ((unhide HX_b8_s).keep b9)
      have HX_b7_t := hide ((unhide HX_b7_s).keep b9)
      have HX_b6_t := hide ((unhide HX_b6_s).keep b9)
      have HB_t := hide (below_step (unhide HB_s) b9)
      clear hw9 b9 HX_b8_s HX_b7_s HX_b6_s HB_s
      refine hK.out _ _ hC9 ?_
      clear hK K
      (try simp only [Act.put, List.setIfInBounds_toArray, List.set_cons_zero, List.set_cons_succ])
      refine wpHold_done (by kernel_rfl) ?_ _
      clear hC0 hC9 HEQ q1 q2 q3 q4 q5 q6 q7 q8 q9 q10 q11
      by_cases hov : Kmp.Ov g f M (i + 1)
      · have hls : L1 = L0 + R1 := by rw [unhide HLS, if_pos hov]
        subst hls
        have hdo : decide (Kmp.Ov g f M (i + 1)) = true := decide_eq_true hov
        simp only [hdo]
        clear hov hdo
        obtain ⟨cb7_0, cb7_1, cb7_2⟩ := (unhide HX_b7_t).cells _ (Below.refl _ _)
        obtain ⟨cb8_0, cb8_1, cb8_2⟩ := (unhide HX_b8_t).cells _ (Below.refl _ _)
        go_wp2_with fail
        refine (unhide HADD _ _ _ _ _ (unhide HX_b7_t).2 (unhide HX_b8_t).2 (unhide HR7) (unhide HR8)).mono ?_
        rintro e w_51 ⟨v7, rfl, hv7, hbx⟩
        clear cb7_0 cb7_1 cb7_2 cb8_0 cb8_1 cb8_2
        obtain ⟨ta, rfl, hr_51⟩ := tri_of hv7
        simp only [Tri.val]
        have HB_52 := hide (below_step (unhide HB_t) hbx)
        have HX_b6_52 := hide ((unhide HX_b6_t).keep hbx)
        have HX_b7_52 := hide ((unhide HX_b7_t).keep hbx)
        have HX_b8_52 := hide ((unhide HX_b8_t).keep hbx)
        clear HB_t HX_b6_t HX_b7_t HX_b8_t
        have ⟨l51_0, l51_1, l51_2⟩ := (unhide HX_b7_52).free
        have ⟨y51_0, y51_1, y51_2⟩ := (unhide HX_b7_52).cells _ (Below.refl _ _)
        have HZ_b6_51 := hide ((unhide HX_b6_52).other (unhide HX_b7_52) (Nat.ne_of_lt (unhide HL_b6_b7)) (.bool ta.s) (.slice ta.a1 ta.n1 ta.c1) (.slice ta.a2 ta.n2 ta.c2))
        have HZ_b7_51 := hide ((unhide HX_b7_52).set hr_51)
        have HZ_b8_51 := hide ((unhide HX_b8_52).other (unhide HX_b7_52) (Nat.ne_of_gt (unhide HL_b7_b8)) (.bool ta.s) (.slice ta.a1 ta.n1 ta.c1) (.slice ta.a2 ta.n2 ta.c2))
        have HB_51s := hide ((((unhide HB_52).setCell (p := ⟨b7, 0, none⟩) (unhide HG_b7) (.bool ta.s)).setCell (p := ⟨b7, 1, none⟩) (unhide HG_b7) (.slice ta.a1 ta.n1 ta.c1)).setCell (p := ⟨b7, 2, none⟩) (unhide HG_b7) (.slice ta.a2 ta.n2 ta.c2))
        clear HB_52 HX_b6_52 HX_b7_52 HX_b8_52 hv7 hbx hr_51
        obtain ⟨Ws_51, hWs_51⟩ : ∃ W, ((w_51.setCell ⟨b7, 0, none⟩ (.bool ta.s)).setCell ⟨b7, 1, none⟩ (.slice ta.a1 ta.n1 ta.c1)).setCell ⟨b7, 2, none⟩ (.slice ta.a2 ta.n2 ta.c2) = W := ⟨_, rfl⟩
        rw [hWs_51] at HB_51s HZ_b6_51 HZ_b7_51 HZ_b8_51
        go_wp2_with fail
        clear l51_0 l51_1 l51_2 y51_0 y51_1 y51_2 hWs_51
        exact ⟨⟨i + 1, ta, t9, by go_num, by omega, unhide HB_51s, unhide HZ_b6_51, (by rw [unhide HL1]; exact unhide HZ_b7_51), (by rw [unhide HR1]; exact unhide HZ_b8_51)⟩, by simp [intOf]; omega⟩
      · have hls : L1 = L0 := by rw [unhide HLS, if_neg hov]; grind
        subst hls
        have hdo : decide (Kmp.Ov g f M (i + 1)) = false := decide_eq_false hov
        simp only [hdo]
        clear hov hdo
        go_wp2_with fail
        exact ⟨⟨i + 1, t7, t9, by go_num, by omega, unhide HB_t, unhide HX_b6_t, (by rw [unhide HL1]; exact unhide HX_b7_t), (by rw [unhide HR1]; exact unhide HX_b8_t)⟩, by simp [intOf]; omega⟩
    · obtain rfl : i = K := by omega
      have i1 : ¬ (i : Int) < (i : Int) := by omega
      have ⟨g0, g1, g2⟩ := (unhide HX_b7_r).cells _ (Below.refl _ _)
      have ⟨h0, h1, h2⟩ := (unhide HX_b6_r).cells _ (Below.refl _ _)
      have ⟨l0, l1, l2⟩ := (unhide HX_b6_r).free
      have FIN := hide ((unhide HX_b6_r).set (unhide HX_b7_r).2)
      have FB := hide ((((unhide HB_r).setCell (p := ⟨b6, 0, none⟩) (unhide HG_b6) (.bool t7.s)).setCell (p := ⟨b6, 1, none⟩) (unhide HG_b6) (.slice t7.a1 t7.n1 t7.c1)).setCell (p := ⟨b6, 2, none⟩) (unhide HG_b6) (.slice t7.a2 t7.n2 t7.c2))
      obtain ⟨Wf, hWf⟩ : ∃ W, ((wr.setCell ⟨b6, 0, none⟩ (.bool t7.s)).setCell ⟨b6, 1, none⟩ (.slice t7.a1 t7.n1 t7.c1)).setCell ⟨b6, 2, none⟩ (.slice t7.a2 t7.n2 t7.c2) = W := ⟨_, rfl⟩
      rw [hWf] at FIN FB
      have ⟨x0, x1, x2⟩ := (unhide FIN).cells _ (Below.refl _ _)
      go_wp2
      exact bodyPost_ret (v := .agg #[.bool t7.s, .slice t7.a1 t7.n1 t7.c1, .slice t7.a2 t7.n2 t7.c2]) (by simp [results, Tryd.results60, go_sem, x0, x1, x2]) rfl ⟨_, rfl, (unhide FIN).2, unhide FB⟩

end Go.Proofs.YtdicbnchkfclaaaDoor
