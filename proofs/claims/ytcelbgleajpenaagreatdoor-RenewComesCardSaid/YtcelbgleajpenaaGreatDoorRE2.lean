/- Renewals by the document: Comes. -/
import Derived.Test.YtcelbgleajpenaaGreatDoorRE1
import Derived.Test.YtcelbgleajpenaaGreatDoorM88
namespace Go.Proofs.YtcelbgleajpenaaGreatDoor
open Go.RowKit Go.Sort Go.Shelf

theorem PRow.base {w w1 wr : World} {g K : Nat} {os : List (Option Nat)} {F : Nat → Option Rat} (h : PRow w1 wr g K os F) (hb : Below w.heap.size w w1) : PRow w wr g K os F :=
  ⟨h.blk, h.len, h.rat, below_step hb h.bl, Nat.le_trans hb.size h.gl⟩
/-- The numbers of renewals are small. -/
structure CmS (x : Nat → Rat) (c up S : Nat) : Prop where
  cna : ∀ n t, t ≤ up → RS (Rnw.cna x c n t) S
  oca : ∀ n t, t ≤ up → RS (Rnw.oca x c n t) S
  part : ∀ n t k, t ≤ up → k ≤ t → RS (Bth.ps (fun j => Rnw.cna x c n (t - (j + 1)) * x (j + 1)) k) S
  x : ∀ j, RS (x j) 1
theorem dpr_pw {x : Nat → Rat} (h : ∀ j, RS (x j) 1) : ∀ k, ((Rnw.dpr x k : Nat) : Int) ≤ Wd.pw k
  | 0 => by rw [Wd.pw_zero]; exact Int.le_refl _
  | k + 1 => by
    have ih := dpr_pw h k
    have hd := (h k).2
    rw [Wd.pw_one] at hd
    show ((Rnw.dpr x k * (x k).den : Nat) : Int) ≤ _
    rw [Int.natCast_mul, Wd.pw_add k 1, Wd.pw_one]
    exact Int.mul_le_mul ih (by omega) (Int.natCast_nonneg _) (by have := Wd.pw_pos k; omega)
theorem pow_pw {D n : Nat} (h : ((D : Nat) : Int) ≤ Wd.pw n) : ∀ t, ((D ^ t : Nat) : Int) < Wd.pw (n * t + 1)
  | 0 => by rw [Nat.pow_zero, Nat.mul_zero, Nat.zero_add, Wd.pw_one]; decide
  | t + 1 => by
    have ih := pow_pw h t
    have e : n * (t + 1) + 1 = (n * t + 1) + n := by rw [Nat.mul_succ]; omega
    have hp := Wd.pw_pos n
    rw [Nat.pow_succ, Int.natCast_mul, e, Wd.pw_add]
    have e1 := Int.mul_le_mul_of_nonneg_left h (show (0 : Int) ≤ ((D ^ t : Nat) : Int) from Int.natCast_nonneg _)
    have e2 := Int.mul_lt_mul_of_pos_right ih hp
    omega
theorem cmS {x : Nat → Rat} {c up m : Nat} (h : Rnw.Lst x) (hc : ∀ j, c < j → x j = 0) (hr : ∀ j, RS (x j) 1) (hm : c < m) : CmS x c up (m * up + 1) := by
  have hI : ∀ j, Rsk.Iv (x j) (Rnw.dpr x m) := fun j => by
    rcases Nat.lt_or_ge j m with a | a
    · exact Rnw.dpr_Iv (fun j => den_Iv (x j)) m j a
    · rw [hc j (by omega)]; exact Rsk.Iv.zero _
  have hne : ∀ t, Rnw.dpr x m ^ t ≠ 0 := fun t => Nat.ne_of_gt (Nat.pow_pos (Nat.pos_of_ne_zero (Rnw.dpr_ne x m)))
  have hpw : ∀ t, t ≤ up → ((Rnw.dpr x m ^ t : Nat) : Int) < Wd.pw (m * up + 1) := fun t ht => Int.lt_of_lt_of_le (pow_pw (dpr_pw hr m) t) (Wd.pw_mono (by have := Nat.mul_le_mul_left m ht; omega))
  refine ⟨fun n t ht => ?_, fun n t ht => ?_, fun n t k ht hk => ?_, hr⟩
  · exact Iv_rs (Rnw.cna_Iv hI n t) (Rnw.cna_01 h n t).1 (Rnw.cna_01 h n t).2 (hne t) (hpw t ht)
  · exact Iv_rs (Rnw.oca_Iv hI n t) (Rnw.oca_01 h hc n t).1 (Rnw.oca_01 h hc n t).2 (hne t) (hpw t ht)
  · have e := Rnw.ps_le1 (f := fun j => Rnw.cna x c n (t - (j + 1))) h k (fun j _ => Rnw.cna_01 h n _)
    exact Iv_rs (Rnw.part_Iv (f := Rnw.cna x c n) hI (fun s _ => Rnw.cna_Iv hI n s) k hk) e.1 e.2 (hne t) (hpw t ht)
set_option maxHeartbeats 16000000 in
set_option maxRecDepth 100000 in
set_option linter.unusedSimpArgs false in
theorem refComes_any (v : Value) (qs : List Rat) (x : Nat → Rat) (c up S K : Nat) (w : World) (h : RList w v qs) (hx : xq qs = x) (hc : c + 1 = qs.length) (hcz : ∀ j, c < j → x j = 0) (hS : CmS x c up S) (hK : up + 1 = K) (hup : up ≤ 100) (hS2 : S ≤ 100000) :
    Calls Tryz.prog 28 #[v, .int .i64 (up : Int)] w fun e w' => ∃ u, e = .returned u ∧ RList w' u (row (Rnw.u x) K) ∧ Below w.heap.size w w' := by
  have HU : Hid (∀ W, Calls Tryz.prog 68 #[.int .i64 (K : Int), .int .i64 0] W fun e w' => ∃ g os, e = .returned (.slice (some ⟨g, 0, none⟩) K K) ∧ PRow W w' g K os (fun j => some (if j = 0 then 1 else 0))) := fun W => refUnit_any K 0 (by omega) (by omega) W
  have HMK : Hid (∀ W : World, _) := fun W => make_ptrs K (by omega) W
  have HOU : Hid (∀ t, t ≤ up → Rnw.oca x c up t = Rnw.u x t) := fun t ht => Rnw.oca_u hcz t up ht
  obtain ⟨a, cp, rfl, m1, m2, m3⟩ := h
  obtain ⟨n, hn⟩ : ∃ n, qs.length = n := ⟨_, rfl⟩
  obtain ⟨bl, ol, rfl, hbl, hcs⟩ := m3 (by omega)
  have HCL : Hid (∀ j, j < n → ∃ g, w.cell? ⟨bl, ol + j, none⟩ = some (.pointer (some ⟨g, 0, none⟩)) ∧ BRz w g 0 (x j)) := fun j hj => by
    rw [← hn] at hj
    rw [← hx]
    exact hcs j hj
  rw [hn] at hc m1 ⊢
  have HS := hide hS
  have HSS : Hid (S + 1 ≤ 400000) := show _ ≤ _ by omega
  have HS2 : Hid (S + (S + 1) ≤ 400000) := show _ ≤ _ by omega
  have HSS2 : Hid (S + S ≤ 400000) := show _ ≤ _ by omega
  have jK : (up : Int) + 1 = (K : Int) := by omega
  have jKw : IntKind.i64.wrap (K : Int) = (K : Int) := by rw [IntKind.wrap_i64]; omega
  clear hcs m3 hx hcz hS hn hS2
  go_enter Tryz.func28, Tryz.ntmps28
  go_wp2_with fail
  refine (unhide HU w).mono ?_
  rintro e w1 ⟨g1, os1, rfl, P1⟩
  have HP1 := hide P1
  clear P1
  go_wp2_with fail
  refine (unhide HU w1).mono ?_
  rintro e w2 ⟨g2, os2, rfl, P2⟩
  have ne0 : g1 ≠ g2 := by have := (unhide HP1).lt; have := P2.gl; omega
  have Q1 := (unhide HP1).keep P2.bl
  have HQ1 := hide (Q1.congr (G := fun t => some (Rnw.oca x c 0 t)) (fun t _ => rfl))
  have HQ2 := hide ((P2.base (unhide HP1).bl).congr (G := fun t => some (Rnw.cna x c 0 t)) (fun t _ => rfl))
  have HN0 := hide ne0
  clear P2 Q1 HP1 ne0
  go_wp2_with fail
  go_loopw [6, 17] (fun va vN wr => ∃ (N g2 : Nat) (os1 os2 : List (Option Nat)), va = .slice (some ⟨g2, 0, none⟩) K K ∧ vN = .int .i64 (N : Int) ∧ N ≤ up ∧ g1 ≠ g2 ∧ PRow w wr g1 K os1 (fun t => some (Rnw.oca x c N t)) ∧ PRow w wr g2 K os2 (fun t => some (Rnw.cna x c N t))) (fun _ vN _ => up - (intOf vN).toNat)
  case atStart => exact ⟨0, g2, os1, os2, rfl, rfl, Nat.zero_le _, unhide HN0, unhide HQ1, unhide HQ2⟩
  case round =>
    obtain ⟨N, g2, os1, os2, rfl, rfl, hN, hne12, P1, P2⟩ := hrel
    clear HQ1 HQ2 HN0
    by_cases hNu : N < up
    · have HNU := hide hNu
      have jN : (N : Int) < (up : Int) := by omega
      obtain ⟨wo, hwo⟩ : ∃ W, W = wr := ⟨_, rfl⟩
      subst hwo
      have qmk := unhide HMK wo
      have P3 := PRow.new P1.bl K
      have bA := alloc_below wo (.cells (pcells (List.replicate K none)).toArray 31)
      have P1' := P1.keep bA
      have P2' := P2.keep bA
      obtain ⟨W3, hW3⟩ : ∃ W, wo.alloc (.cells (pcells (List.replicate K none)).toArray 31) = W := ⟨_, rfl⟩
      obtain ⟨g3, hg3⟩ : ∃ g, wo.heap.size = g := ⟨_, rfl⟩
      have hn13 : g3 ≠ g1 := by have := P1.lt; omega
      have hn23 : g3 ≠ g2 := by have := P2.lt; omega
      rw [hW3] at P3 P1' P2' qmk
      rw [hg3] at P3 qmk
      have HP1 := hide P1'
      have HP2 := hide P2'
      have HP3 := hide P3
      have HNE : Hid (g3 ≠ g1 ∧ g3 ≠ g2) := ⟨hn13, hn23⟩
      have HNE12 : Hid (g1 ≠ g2) := hne12
      clear P1 P2 P3 P1' P2' bA hW3 hg3 hn13 hn23 hne12
      go_wp2_with fail
      clear qmk
      go_loopw [24] (fun vt wr => ∃ (t : Nat) (os1 os2 os3 : List (Option Nat)), vt = .int .i64 (t : Int) ∧ t ≤ K ∧ PRow w wr g1 K os1 (fun s => some (if s < t then Rnw.oca x c (N + 1) s else Rnw.oca x c N s)) ∧ PRow w wr g2 K os2 (fun s => some (Rnw.cna x c N s)) ∧ PRow w wr g3 K os3 (fun s => if s < t then some (Rnw.cna x c (N + 1) s) else none)) (fun vt _ => K - (intOf vt).toNat)
      case atStart => exact ⟨0, _, _, _, rfl, Nat.zero_le _, (unhide HP1).congr (fun s _ => by rw [if_neg (by omega)]), unhide HP2, (unhide HP3).congr (fun s _ => by rw [if_neg (by omega)])⟩
      case round =>
        obtain ⟨t, os1, os2, os3, rfl, ht, P1, P2, P3⟩ := hrel
        clear HP1 HP2 HP3
        by_cases htK : t < K
        · have HTK := hide htK
          have HTU : Hid (t ≤ up) := show t ≤ up by omega
          have t0 : (0 : Int) ≤ (t : Int) := by omega
          have t1 : (t : Int) < (K : Int) := by omega
          have HI := hide (refIntz_any 0 (by decide) (by decide) wr)
          have HT1 := hide P1
          have HT2 := hide P2
          have HT3 := hide P3
          clear P1 P2 P3 htK ht
          go_wp2_with fail
          refine (unhide HI).mono ?_
          rintro e w5 ⟨b5, rfl, -, z5, hb5⟩
          have T3' := (unhide HT3).keep hb5
          have ⟨kc, kf⟩ := T3'.cell (unhide HTK)
          have N3 := (T3'.set (unhide HTK) z5).congr (G := (fun s => if s = t then some (Bth.ps (fun j => Rnw.cna x c N (t - (j + 1)) * x (j + 1)) 0) else if s < t then some (Rnw.cna x c (N + 1) s) else none)) (fun s _ => by
            show _ = if s = t then some ((0 : Int) : Rat) else if s < t then some (Rnw.cna x c (N + 1) s) else none
            by_cases q : s = t
            · rw [if_pos q, if_pos q, show ((0 : Int) : Rat) = 0 by simp]; rfl
            · rw [if_neg q, if_neg q])
          have N1 := ((unhide HT1).keep hb5).other (v := .pointer (some ⟨b5, 0, none⟩)) kc (unhide HNE).1 T3'.gl
          have N2 := ((unhide HT2).keep hb5).other (v := .pointer (some ⟨b5, 0, none⟩)) kc (unhide HNE).2 T3'.gl
          have HN1 := hide N1
          have HN2 := hide N2
          have HN3 := hide N3
          clear T3' N1 N2 N3 z5 hb5 HI HT1 HT2 HT3
          go_wp2_with fail
          clear kc kf
          go_loopw [9] (fun vx wr => ∃ (k : Nat) (os1 os2 os3 : List (Option Nat)), vx = .int .i64 ((k + 1 : Nat) : Int) ∧ k ≤ t ∧ k ≤ c ∧ PRow w wr g1 K os1 (fun s => some (if s < t then Rnw.oca x c (N + 1) s else Rnw.oca x c N s)) ∧ PRow w wr g2 K os2 (fun s => some (Rnw.cna x c N s)) ∧ PRow w wr g3 K os3 (fun s => if s = t then some (Bth.ps (fun j => Rnw.cna x c N (t - (j + 1)) * x (j + 1)) k) else if s < t then some (Rnw.cna x c (N + 1) s) else none)) (fun vx _ => K + 1 - (intOf vx).toNat)
          case atStart => exact ⟨0, _, _, _, rfl, Nat.zero_le _, Nat.zero_le _, unhide HN1, unhide HN2, unhide HN3⟩
          case round =>
            obtain ⟨k, os1, os2, os3, rfl, hkt, hkc, P1, P2, P3⟩ := hrel
            clear HN1 HN2 HN3
            obtain ⟨y, hy⟩ : ∃ y, k + 1 = y := ⟨_, rfl⟩
            rw [hy]
            have hTU := unhide HTU
            have hTK := unhide HTK
            by_cases h1 : y ≤ t
            · have e1 : (y : Int) ≤ (t : Int) := by omega
              by_cases h2 : y < n
              · have e2 : (y : Int) < (n : Int) := by omega
                have y0 : (0 : Int) ≤ (y : Int) := by omega
                obtain ⟨d, hd⟩ : ∃ d, t - y = d := ⟨_, rfl⟩
                have jd : (t : Int) - (y : Int) = (d : Int) := by omega
                have jdw : IntKind.i64.wrap (d : Int) = (d : Int) := by rw [IntKind.wrap_i64]; omega
                have d0 : (0 : Int) ≤ (d : Int) := by omega
                have d1 : (d : Int) < (K : Int) := by omega
                obtain ⟨xs, es, zs⟩ := P3.at hTK (show _ = some (Bth.ps (fun j => Rnw.cna x c N (t - (j + 1)) * x (j + 1)) k) by rw [if_pos rfl])
                obtain ⟨xa, ea, za⟩ := P2.at (show d < K by omega) (show _ = some (Rnw.cna x c N d) from rfl)
                obtain ⟨xb, eb, zb⟩ := unhide HCL y h2
                have HCC : Hid (∀ W, Below wr.heap.size wr W → (fun w' : World => w'.cell? ⟨g3, t, none⟩ = some (.pointer (some ⟨xs, 0, none⟩)) ∧ w'.cell? ⟨g2, d, none⟩ = some (.pointer (some ⟨xa, 0, none⟩)) ∧ w'.cell? ⟨bl, ol + y, none⟩ = some (.pointer (some ⟨xb, 0, none⟩))) W) := fun W hW => ⟨by rw [hW.cell (p := ⟨g3, t, none⟩) P3.lt]; exact es, by rw [hW.cell (p := ⟨g2, d, none⟩) P2.lt]; exact ea, by rw [(below_step P1.bl hW).cell (p := ⟨bl, ol + y, none⟩) hbl]; exact eb⟩
                have HZs := hide zs
                have HZa := hide za
                have HZb := hide (zb.below P1.bl)
                have HRs := hide ((unhide HS).part N t k hTU hkt)
                have HRa := hide ((unhide HS).cna N d (by omega))
                have HRb := hide ((unhide HS).x y)
                have HPS : Hid (Bth.ps (fun j => Rnw.cna x c N (t - (j + 1)) * x (j + 1)) k + Rnw.cna x c N d * x y = Bth.ps (fun j => Rnw.cna x c N (t - (j + 1)) * x (j + 1)) y) := show _ = _ by rw [← hy, ← hd, ← hy]; rfl
                have HT1 := hide P1
                have HT2 := hide P2
                have HT3 := hide P3
                have HYY : Hid (k + 1 = y ∧ y ≤ t ∧ y < n ∧ c + 1 = n) := ⟨hy, h1, h2, hc⟩
                clear P1 P2 P3 es ea eb zs za zb hd hTU hTK hkt hkc
                go_wp2_with fail
                refine wp_region_till (fun w' : World => w'.cell? ⟨g3, t, none⟩ = some (.pointer (some ⟨xs, 0, none⟩)) ∧ w'.cell? ⟨g2, d, none⟩ = some (.pointer (some ⟨xa, 0, none⟩)) ∧ w'.cell? ⟨bl, ol + y, none⟩ = some (.pointer (some ⟨xb, 0, none⟩))) 19 (by kernel_rfl) ?_
                have bd0 : Below wr.heap.size wr wr.drew := (Below.refl _ _).drew
                have hC0 : (fun w' : World => w'.cell? ⟨g3, t, none⟩ = some (.pointer (some ⟨xs, 0, none⟩)) ∧ w'.cell? ⟨g2, d, none⟩ = some (.pointer (some ⟨xa, 0, none⟩)) ∧ w'.cell? ⟨bl, ol + y, none⟩ = some (.pointer (some ⟨xb, 0, none⟩))) wr.drew := unhide HCC _ bd0
                refine wpTill_pure (i := 0) (v := ?_) rfl (by kernel_rfl) (by kernel_rfl) (by kernel_rfl) (by kernel_rfl) (fun _ _ _ h => h) (Or.inl ⟨by rfl, ?_⟩) (fun _ => hC0) ?_
                rotate_left
                · intro w hSw; clear hSw; go_simp; (try with_reducible rfl)
                (try simp only [List.getElem_toArray, List.getElem_cons_succ, List.getElem_cons_zero])
                (try simp only [Act.put, List.setIfInBounds_toArray, List.set_cons_zero, List.set_cons_succ])
                refine wpTill_pure (i := 1) (v := ?_) rfl (by kernel_rfl) (by kernel_rfl) (by kernel_rfl) (by kernel_rfl) (fun _ _ _ h => h) (Or.inl ⟨by rfl, ?_⟩) (fun _ => hC0) ?_
                rotate_left
                · intro w hSw; clear hSw; go_simp; (try with_reducible rfl)
                (try simp only [List.getElem_toArray, List.getElem_cons_succ, List.getElem_cons_zero])
                (try simp only [Act.put, List.setIfInBounds_toArray, List.set_cons_zero, List.set_cons_succ])
                refine wpTill_pure (i := 2) (v := ?_) rfl (by kernel_rfl) (by kernel_rfl) (by kernel_rfl) (by kernel_rfl) (fun _ _ _ h => h) (Or.inl ⟨by rfl, ?_⟩) (fun _ => hC0) ?_
                rotate_left
                · intro w hSw; clear hSw; go_simp; (try with_reducible rfl)
                (try simp only [List.getElem_toArray, List.getElem_cons_succ, List.getElem_cons_zero])
                (try simp only [Act.put, List.setIfInBounds_toArray, List.set_cons_zero, List.set_cons_succ])
                refine wpTill_pure (i := 3) (v := ?_) rfl (by kernel_rfl) (by kernel_rfl) (by kernel_rfl) (by kernel_rfl) (fun _ _ _ h => h) (Or.inl ⟨by rfl, ?_⟩) (fun _ => hC0) ?_
                rotate_left
                · intro w hSw; clear hSw; go_simp; (try with_reducible rfl)
                (try simp only [List.getElem_toArray, List.getElem_cons_succ, List.getElem_cons_zero])
                (try simp only [Act.put, List.setIfInBounds_toArray, List.set_cons_zero, List.set_cons_succ])
                refine wpTill_pure (i := 4) (v := ?_) rfl (by kernel_rfl) (by kernel_rfl) (by kernel_rfl) (by kernel_rfl) (fun _ _ _ h => h) (Or.inl ⟨by rfl, ?_⟩) (fun _ => hC0) ?_
                rotate_left
                · intro w hSw; clear hSw; go_simp; (try with_reducible rfl)
                (try simp only [List.getElem_toArray, List.getElem_cons_succ, List.getElem_cons_zero])
                (try simp only [Act.put, List.setIfInBounds_toArray, List.set_cons_zero, List.set_cons_succ])
                refine wpTill_deep (i := 5) (v := ?_) [17, 18, 19] rfl (by kernel_rfl) (by kernel_rfl) (by kernel_rfl) (by kernel_rfl) (by kernel_rfl) (by kernel_rfl) (by kernel_rfl) (fun _ _ _ h => h) (Or.inl ⟨by rfl, ?_⟩) hC0 ?_
                rotate_left
                · intro w hSw; (try dsimp only at hSw); obtain ⟨z0, z1, z2⟩ := hSw; go_simp; (try with_reducible rfl)
                (try simp only [List.getElem_toArray, List.getElem_cons_succ, List.getElem_cons_zero])
                (try simp only [Act.put, List.setIfInBounds_toArray, List.set_cons_zero, List.set_cons_succ])
                refine wpTill_pure (i := 6) (v := ?_) rfl (by kernel_rfl) (by kernel_rfl) (by kernel_rfl) (by kernel_rfl) (fun _ _ _ h => h) (Or.inl ⟨by rfl, ?_⟩) (fun _ => hC0) ?_
                rotate_left
                · intro w hSw; clear hSw; go_simp; (try with_reducible rfl)
                (try simp only [List.getElem_toArray, List.getElem_cons_succ, List.getElem_cons_zero])
                (try simp only [Act.put, List.setIfInBounds_toArray, List.set_cons_zero, List.set_cons_succ])
                refine wpTill_pure (i := 7) (v := ?_) rfl (by kernel_rfl) (by kernel_rfl) (by kernel_rfl) (by kernel_rfl) (fun _ _ _ h => h) (Or.inl ⟨by rfl, ?_⟩) (fun _ => hC0) ?_
                rotate_left
                · intro w hSw; clear hSw; go_simp; (try with_reducible rfl)
                (try simp only [List.getElem_toArray, List.getElem_cons_succ, List.getElem_cons_zero])
                (try simp only [Act.put, List.setIfInBounds_toArray, List.set_cons_zero, List.set_cons_succ])
                refine wpTill_pure (i := 8) (v := ?_) rfl (by kernel_rfl) (by kernel_rfl) (by kernel_rfl) (by kernel_rfl) (fun _ _ _ h => h) (Or.inl ⟨by rfl, ?_⟩) (fun _ => hC0) ?_
                rotate_left
                · intro w hSw; clear hSw; go_simp; (try with_reducible rfl)
                (try simp only [List.getElem_toArray, List.getElem_cons_succ, List.getElem_cons_zero])
                (try simp only [Act.put, List.setIfInBounds_toArray, List.set_cons_zero, List.set_cons_succ])
                refine wpTill_pure (i := 9) (v := ?_) rfl (by kernel_rfl) (by kernel_rfl) (by kernel_rfl) (by kernel_rfl) (fun _ _ _ h => h) (Or.inl ⟨by rfl, ?_⟩) (fun _ => hC0) ?_
                rotate_left
                · intro w hSw; clear hSw; go_simp; (try with_reducible rfl)
                (try simp only [List.getElem_toArray, List.getElem_cons_succ, List.getElem_cons_zero])
                (try simp only [Act.put, List.setIfInBounds_toArray, List.set_cons_zero, List.set_cons_succ])
                refine wpTill_pure (i := 10) (v := ?_) rfl (by kernel_rfl) (by kernel_rfl) (by kernel_rfl) (by kernel_rfl) (fun _ _ _ h => h) (Or.inl ⟨by rfl, ?_⟩) (fun _ => hC0) ?_
                rotate_left
                · intro w hSw; clear hSw; go_simp; (try with_reducible rfl)
                (try simp only [List.getElem_toArray, List.getElem_cons_succ, List.getElem_cons_zero])
                (try simp only [Act.put, List.setIfInBounds_toArray, List.set_cons_zero, List.set_cons_succ])
                refine wpTill_deep (i := 11) (v := ?_) [16, 17, 18, 19] rfl (by kernel_rfl) (by kernel_rfl) (by kernel_rfl) (by kernel_rfl) (by kernel_rfl) (by kernel_rfl) (by kernel_rfl) (fun _ _ _ h => h) (Or.inl ⟨by rfl, ?_⟩) hC0 ?_
                rotate_left
                · intro w hSw; (try dsimp only at hSw); obtain ⟨z0, z1, z2⟩ := hSw; go_simp; (try with_reducible rfl)
                (try simp only [List.getElem_toArray, List.getElem_cons_succ, List.getElem_cons_zero])
                (try simp only [Act.put, List.setIfInBounds_toArray, List.set_cons_zero, List.set_cons_succ])
                refine wpTill_pure (i := 12) (v := ?_) rfl (by kernel_rfl) (by kernel_rfl) (by kernel_rfl) (by kernel_rfl) (fun _ _ _ h => h) (Or.inl ⟨by rfl, ?_⟩) (fun _ => hC0) ?_
                rotate_left
                · intro w hSw; clear hSw; go_simp; (try with_reducible rfl)
                (try simp only [List.getElem_toArray, List.getElem_cons_succ, List.getElem_cons_zero])
                (try simp only [Act.put, List.setIfInBounds_toArray, List.set_cons_zero, List.set_cons_succ])
                refine wpTill_pure (i := 13) (v := ?_) rfl (by kernel_rfl) (by kernel_rfl) (by kernel_rfl) (by kernel_rfl) (fun _ _ _ h => h) (Or.inl ⟨by rfl, ?_⟩) (fun _ => hC0) ?_
                rotate_left
                · intro w hSw; clear hSw; go_simp; (try with_reducible rfl)
                (try simp only [List.getElem_toArray, List.getElem_cons_succ, List.getElem_cons_zero])
                (try simp only [Act.put, List.setIfInBounds_toArray, List.set_cons_zero, List.set_cons_succ])
                refine wpTill_pure (i := 14) (v := ?_) rfl (by kernel_rfl) (by kernel_rfl) (by kernel_rfl) (by kernel_rfl) (fun _ _ _ h => h) (Or.inl ⟨by rfl, ?_⟩) (fun _ => hC0) ?_
                rotate_left
                · intro w hSw; clear hSw; go_simp; (try with_reducible rfl)
                (try simp only [List.getElem_toArray, List.getElem_cons_succ, List.getElem_cons_zero])
                (try simp only [Act.put, List.setIfInBounds_toArray, List.set_cons_zero, List.set_cons_succ])
                refine wpTill_deep (i := 15) (v := ?_) [16, 17, 18, 19] rfl (by kernel_rfl) (by kernel_rfl) (by kernel_rfl) (by kernel_rfl) (by kernel_rfl) (by kernel_rfl) (by kernel_rfl) (fun _ _ _ h => h) (Or.inl ⟨by rfl, ?_⟩) hC0 ?_
                rotate_left
                · intro w hSw; (try dsimp only at hSw); obtain ⟨z0, z1, z2⟩ := hSw; go_simp; (try with_reducible rfl)
                (try simp only [List.getElem_toArray, List.getElem_cons_succ, List.getElem_cons_zero])
                (try simp only [Act.put, List.setIfInBounds_toArray, List.set_cons_zero, List.set_cons_succ])
                refine wpTill_one (k := 16) (by kernel_rfl) rfl (fun K hK => ?_)
                (try simp only [List.getElem_toArray, List.getElem_cons_succ, List.getElem_cons_zero])
                go_simp
                refine (refMul_any xa xb S 1 _ _ wr.drew ((unhide HZa).below bd0) ((unhide HZb).below bd0) (unhide HRa) (unhide HRb) (unhide HSS)).mono ?_
                rintro e x1 ⟨b1, rfl, -, hr1, hb1⟩
                have cc_1 := below_step bd0 hb1
                have hC_1 : (fun w' : World => w'.cell? ⟨g3, t, none⟩ = some (.pointer (some ⟨xs, 0, none⟩)) ∧ w'.cell? ⟨g2, d, none⟩ = some (.pointer (some ⟨xa, 0, none⟩)) ∧ w'.cell? ⟨bl, ol + y, none⟩ = some (.pointer (some ⟨xb, 0, none⟩))) x1 := unhide HCC _ cc_1
                refine hK.out _ _ (fun _ => hC_1) ?_
                clear hK K
                (try simp only [Act.put, List.setIfInBounds_toArray, List.set_cons_zero, List.set_cons_succ])
                refine wpTill_one (k := 17) (by kernel_rfl) rfl (fun K hK => ?_)
                (try simp only [List.getElem_toArray, List.getElem_cons_succ, List.getElem_cons_zero])
                go_simp
                refine (refAdd_any xs b1 S (S + 1) _ _ x1 ((unhide HZs).below cc_1) hr1 (unhide HRs) ((unhide HRa).mul (unhide HRb)) (unhide HS2)).mono ?_
                rintro e x2 ⟨b2, rfl, -, hr2, hb2⟩
                have cc_2 := below_step cc_1 hb2
                have hC_2 : (fun w' : World => w'.cell? ⟨g3, t, none⟩ = some (.pointer (some ⟨xs, 0, none⟩)) ∧ w'.cell? ⟨g2, d, none⟩ = some (.pointer (some ⟨xa, 0, none⟩)) ∧ w'.cell? ⟨bl, ol + y, none⟩ = some (.pointer (some ⟨xb, 0, none⟩))) x2 := unhide HCC _ cc_2
                rw [unhide HPS] at hr2
                have T3' := (unhide HT3).keep cc_2
                have ⟨kc, kf⟩ := T3'.cell (unhide HTK)
                have N3 := T3'.set (unhide HTK) hr2
                have N1 := ((unhide HT1).keep cc_2).other (v := .pointer (some ⟨b2, 0, none⟩)) kc (unhide HNE).1 T3'.gl
                have N2 := ((unhide HT2).keep cc_2).other (v := .pointer (some ⟨b2, 0, none⟩)) kc (unhide HNE).2 T3'.gl
                have HN1 := hide N1
                have HN2 := hide N2
                have HN3 := hide N3
                clear T3' N1 N2 N3
                refine hK.out _ _ (fun _ => hC_2) ?_
                clear hK K
                (try simp only [Act.put, List.setIfInBounds_toArray, List.set_cons_zero, List.set_cons_succ])
                refine wpTill_pure (i := 18) (v := ?_) rfl (by kernel_rfl) (by kernel_rfl) (by kernel_rfl) (by kernel_rfl) (fun _ _ _ h => h) (Or.inl ⟨by rfl, ?_⟩) (fun _ => hC_2) ?_
                rotate_left
                · intro w hSw; clear hSw; go_simp; (try with_reducible rfl)
                (try simp only [List.getElem_toArray, List.getElem_cons_succ, List.getElem_cons_zero])
                (try simp only [Act.put, List.setIfInBounds_toArray, List.set_cons_zero, List.set_cons_succ])
                refine wpTill_one (k := 19) (by kernel_rfl) rfl (fun K hK => ?_)
                (try simp only [List.getElem_toArray, List.getElem_cons_succ, List.getElem_cons_zero])
                go_simp
                refine hK.out _ _ (fun h => absurd (h.symm.trans (by kernel_rfl)) Bool.false_ne_true) ?_
                clear hK K
                (try simp only [Act.put, List.setIfInBounds_toArray, List.set_cons_zero, List.set_cons_succ])
                refine wpTill_done (by kernel_rfl) ?_ _
                have HM3 := hide ((unhide HN3).congr (G := (fun s => if s = t then some (Bth.ps (fun j => Rnw.cna x c N (t - (j + 1)) * x (j + 1)) y) else if s < t then some (Rnw.cna x c (N + 1) s) else none)) (fun s _ => by
                  show _ = if s = t then some (Bth.ps (fun j => Rnw.cna x c N (t - (j + 1)) * x (j + 1)) y) else if s = t then some (Bth.ps (fun j => Rnw.cna x c N (t - (j + 1)) * x (j + 1)) k) else if s < t then some (Rnw.cna x c (N + 1) s) else none
                  by_cases q : s = t
                  · rw [if_pos q, if_pos q]
                  · rw [if_neg q, if_neg q, if_neg q]))
                clear HCC HZs HZa HZb HRs HRa HRb HPS HN3
                go_wp2_with fail
                exact ⟨⟨y, _, _, _, by go_num, by have := unhide HYY; omega, by have := unhide HYY; omega, unhide HN1, unhide HN2, unhide HM3⟩, by have := unhide HYY; have := unhide HTK; simp [intOf]; omega⟩
              · have e2 : ¬ (y : Int) < (n : Int) := by omega
                have hkm : k = min t c := by omega
                obtain ⟨xo, eo, zo⟩ := P1.at (unhide HTK) (show _ = some (Rnw.oca x c N t) by rw [if_neg (by omega)])
                obtain ⟨xs, es, zs⟩ := P3.at (unhide HTK) (show _ = some (Rnw.cna x c (N + 1) t) by rw [if_pos rfl, hkm]; rfl)
                have HT1 := hide P1
                have HT2 := hide P2
                have HT3 := hide (P3.congr (G := (fun s => if s < t + 1 then some (Rnw.cna x c (N + 1) s) else none)) (fun s _ => by
                  show _ = if s = t then some (Bth.ps (fun j => Rnw.cna x c N (t - (j + 1)) * x (j + 1)) k) else if s < t then some (Rnw.cna x c (N + 1) s) else none
                  by_cases q : s = t
                  · subst q
                    rw [if_pos (by omega), if_pos rfl, hkm]; rfl
                  · rw [if_neg q]
                    by_cases q2 : s < t
                    · rw [if_pos (by omega), if_pos q2]
                    · rw [if_neg (by omega), if_neg q2]))
                have HCO : Hid (∀ W, Below wr.heap.size wr W → (fun w' : World => w'.cell? ⟨g1, t, none⟩ = some (.pointer (some ⟨xo, 0, none⟩)) ∧ w'.cell? ⟨g3, t, none⟩ = some (.pointer (some ⟨xs, 0, none⟩))) W) := fun W hW => ⟨by rw [hW.cell (p := ⟨g1, t, none⟩) P1.lt]; exact eo, by rw [hW.cell (p := ⟨g3, t, none⟩) P3.lt]; exact es⟩
                have HZo := hide zo
                have HZs := hide zs
                have HRo := hide ((unhide HS).oca N t (unhide HTU))
                have HRn := hide ((unhide HS).cna (N + 1) t (unhide HTU))
                clear P1 P2 P3 eo es zo zs hkm
                go_wp2_with fail
                refine wp_region_till (fun w' : World => w'.cell? ⟨g1, t, none⟩ = some (.pointer (some ⟨xo, 0, none⟩)) ∧ w'.cell? ⟨g3, t, none⟩ = some (.pointer (some ⟨xs, 0, none⟩))) 12 (by kernel_rfl) ?_
                have bd0 : Below wr.heap.size wr wr.drew := (Below.refl _ _).drew
                have hC0 : (fun w' : World => w'.cell? ⟨g1, t, none⟩ = some (.pointer (some ⟨xo, 0, none⟩)) ∧ w'.cell? ⟨g3, t, none⟩ = some (.pointer (some ⟨xs, 0, none⟩))) wr.drew := unhide HCO _ bd0
                refine wpTill_pure (i := 0) (v := ?_) rfl (by kernel_rfl) (by kernel_rfl) (by kernel_rfl) (by kernel_rfl) (fun _ _ _ h => h) (Or.inl ⟨by rfl, ?_⟩) (fun _ => hC0) ?_
                rotate_left
                · intro w hSw; clear hSw; go_simp; (try with_reducible rfl)
                (try simp only [List.getElem_toArray, List.getElem_cons_succ, List.getElem_cons_zero])
                (try simp only [Act.put, List.setIfInBounds_toArray, List.set_cons_zero, List.set_cons_succ])
                refine wpTill_pure (i := 1) (v := ?_) rfl (by kernel_rfl) (by kernel_rfl) (by kernel_rfl) (by kernel_rfl) (fun _ _ _ h => h) (Or.inl ⟨by rfl, ?_⟩) (fun _ => hC0) ?_
                rotate_left
                · intro w hSw; clear hSw; go_simp; (try with_reducible rfl)
                (try simp only [List.getElem_toArray, List.getElem_cons_succ, List.getElem_cons_zero])
                (try simp only [Act.put, List.setIfInBounds_toArray, List.set_cons_zero, List.set_cons_succ])
                refine wpTill_pure (i := 2) (v := ?_) rfl (by kernel_rfl) (by kernel_rfl) (by kernel_rfl) (by kernel_rfl) (fun _ _ _ h => h) (Or.inl ⟨by rfl, ?_⟩) (fun _ => hC0) ?_
                rotate_left
                · intro w hSw; clear hSw; go_simp; (try with_reducible rfl)
                (try simp only [List.getElem_toArray, List.getElem_cons_succ, List.getElem_cons_zero])
                (try simp only [Act.put, List.setIfInBounds_toArray, List.set_cons_zero, List.set_cons_succ])
                refine wpTill_pure (i := 3) (v := ?_) rfl (by kernel_rfl) (by kernel_rfl) (by kernel_rfl) (by kernel_rfl) (fun _ _ _ h => h) (Or.inl ⟨by rfl, ?_⟩) (fun _ => hC0) ?_
                rotate_left
                · intro w hSw; clear hSw; go_simp; (try with_reducible rfl)
                (try simp only [List.getElem_toArray, List.getElem_cons_succ, List.getElem_cons_zero])
                (try simp only [Act.put, List.setIfInBounds_toArray, List.set_cons_zero, List.set_cons_succ])
                refine wpTill_pure (i := 4) (v := ?_) rfl (by kernel_rfl) (by kernel_rfl) (by kernel_rfl) (by kernel_rfl) (fun _ _ _ h => h) (Or.inl ⟨by rfl, ?_⟩) (fun _ => hC0) ?_
                rotate_left
                · intro w hSw; clear hSw; go_simp; (try with_reducible rfl)
                (try simp only [List.getElem_toArray, List.getElem_cons_succ, List.getElem_cons_zero])
                (try simp only [Act.put, List.setIfInBounds_toArray, List.set_cons_zero, List.set_cons_succ])
                refine wpTill_deep (i := 5) (v := ?_) [10, 11, 12] rfl (by kernel_rfl) (by kernel_rfl) (by kernel_rfl) (by kernel_rfl) (by kernel_rfl) (by kernel_rfl) (by kernel_rfl) (fun _ _ _ h => h) (Or.inl ⟨by rfl, ?_⟩) hC0 ?_
                rotate_left
                · intro w hSw; (try dsimp only at hSw); obtain ⟨z0, z1⟩ := hSw; go_simp; (try with_reducible rfl)
                (try simp only [List.getElem_toArray, List.getElem_cons_succ, List.getElem_cons_zero])
                (try simp only [Act.put, List.setIfInBounds_toArray, List.set_cons_zero, List.set_cons_succ])
                refine wpTill_pure (i := 6) (v := ?_) rfl (by kernel_rfl) (by kernel_rfl) (by kernel_rfl) (by kernel_rfl) (fun _ _ _ h => h) (Or.inl ⟨by rfl, ?_⟩) (fun _ => hC0) ?_
                rotate_left
                · intro w hSw; clear hSw; go_simp; (try with_reducible rfl)
                (try simp only [List.getElem_toArray, List.getElem_cons_succ, List.getElem_cons_zero])
                (try simp only [Act.put, List.setIfInBounds_toArray, List.set_cons_zero, List.set_cons_succ])
                refine wpTill_pure (i := 7) (v := ?_) rfl (by kernel_rfl) (by kernel_rfl) (by kernel_rfl) (by kernel_rfl) (fun _ _ _ h => h) (Or.inl ⟨by rfl, ?_⟩) (fun _ => hC0) ?_
                rotate_left
                · intro w hSw; clear hSw; go_simp; (try with_reducible rfl)
                (try simp only [List.getElem_toArray, List.getElem_cons_succ, List.getElem_cons_zero])
                (try simp only [Act.put, List.setIfInBounds_toArray, List.set_cons_zero, List.set_cons_succ])
                refine wpTill_pure (i := 8) (v := ?_) rfl (by kernel_rfl) (by kernel_rfl) (by kernel_rfl) (by kernel_rfl) (fun _ _ _ h => h) (Or.inl ⟨by rfl, ?_⟩) (fun _ => hC0) ?_
                rotate_left
                · intro w hSw; clear hSw; go_simp; (try with_reducible rfl)
                (try simp only [List.getElem_toArray, List.getElem_cons_succ, List.getElem_cons_zero])
                (try simp only [Act.put, List.setIfInBounds_toArray, List.set_cons_zero, List.set_cons_succ])
                refine wpTill_deep (i := 9) (v := ?_) [10, 11, 12] rfl (by kernel_rfl) (by kernel_rfl) (by kernel_rfl) (by kernel_rfl) (by kernel_rfl) (by kernel_rfl) (by kernel_rfl) (fun _ _ _ h => h) (Or.inl ⟨by rfl, ?_⟩) hC0 ?_
                rotate_left
                · intro w hSw; (try dsimp only at hSw); obtain ⟨z0, z1⟩ := hSw; go_simp; (try with_reducible rfl)
                (try simp only [List.getElem_toArray, List.getElem_cons_succ, List.getElem_cons_zero])
                (try simp only [Act.put, List.setIfInBounds_toArray, List.set_cons_zero, List.set_cons_succ])
                refine wpTill_one (k := 10) (by kernel_rfl) rfl (fun K hK => ?_)
                (try simp only [List.getElem_toArray, List.getElem_cons_succ, List.getElem_cons_zero])
                go_simp
                refine (refAdd_any xo xs S S _ _ wr.drew ((unhide HZo).below bd0) ((unhide HZs).below bd0) (unhide HRo) (unhide HRn) (unhide HSS2)).mono ?_
                rintro e x1 ⟨b1, rfl, -, hr1, hb1⟩
                have cc_1 := below_step bd0 hb1
                have hC_1 : (fun w' : World => w'.cell? ⟨g1, t, none⟩ = some (.pointer (some ⟨xo, 0, none⟩)) ∧ w'.cell? ⟨g3, t, none⟩ = some (.pointer (some ⟨xs, 0, none⟩))) x1 := unhide HCO _ cc_1
                have T1' := (unhide HT1).keep cc_1
                have ⟨kc, kf⟩ := T1'.cell (unhide HTK)
                have N1 := T1'.set (unhide HTK) hr1
                have N2 := ((unhide HT2).keep cc_1).other (v := .pointer (some ⟨b1, 0, none⟩)) kc (unhide HNE12) T1'.gl
                have N3 := ((unhide HT3).keep cc_1).other (v := .pointer (some ⟨b1, 0, none⟩)) kc (unhide HNE).1.symm T1'.gl
                have HN1 := hide N1
                have HN2 := hide N2
                have HN3 := hide N3
                clear T1' N1 N2 N3
                refine hK.out _ _ (fun _ => hC_1) ?_
                clear hK K
                (try simp only [Act.put, List.setIfInBounds_toArray, List.set_cons_zero, List.set_cons_succ])
                refine wpTill_pure (i := 11) (v := ?_) rfl (by kernel_rfl) (by kernel_rfl) (by kernel_rfl) (by kernel_rfl) (fun _ _ _ h => h) (Or.inl ⟨by rfl, ?_⟩) (fun _ => hC_1) ?_
                rotate_left
                · intro w hSw; clear hSw; go_simp; (try with_reducible rfl)
                (try simp only [List.getElem_toArray, List.getElem_cons_succ, List.getElem_cons_zero])
                (try simp only [Act.put, List.setIfInBounds_toArray, List.set_cons_zero, List.set_cons_succ])
                refine wpTill_one (k := 12) (by kernel_rfl) rfl (fun K hK => ?_)
                (try simp only [List.getElem_toArray, List.getElem_cons_succ, List.getElem_cons_zero])
                go_simp
                refine hK.out _ _ (fun h => absurd (h.symm.trans (by kernel_rfl)) Bool.false_ne_true) ?_
                clear hK K
                (try simp only [Act.put, List.setIfInBounds_toArray, List.set_cons_zero, List.set_cons_succ])
                refine wpTill_done (by kernel_rfl) ?_ _
                have HM1 := hide ((unhide HN1).congr (G := (fun s => some (if s < t + 1 then Rnw.oca x c (N + 1) s else Rnw.oca x c N s))) (fun s _ => by
                  show _ = if s = t then some (Rnw.oca x c N t + Rnw.cna x c (N + 1) t) else some (if s < t then Rnw.oca x c (N + 1) s else Rnw.oca x c N s)
                  by_cases q : s = t
                  · subst q
                    rw [if_pos (by omega), if_pos rfl]; rfl
                  · rw [if_neg q]
                    by_cases q2 : s < t
                    · rw [if_pos (by omega), if_pos q2]
                    · rw [if_neg (by omega), if_neg q2]))
                clear HCO HZo HZs HRo HRn
                go_wp2_with fail
                exact ⟨⟨t + 1, _, _, _, by go_num, unhide HTK, unhide HM1, unhide HN2, unhide HN3⟩, by have := unhide HTK; simp [intOf]; omega⟩
            · have e1 : ¬ (y : Int) ≤ (t : Int) := by omega
              have hkm : k = min t c := by omega
              obtain ⟨xo, eo, zo⟩ := P1.at (unhide HTK) (show _ = some (Rnw.oca x c N t) by rw [if_neg (by omega)])
              obtain ⟨xs, es, zs⟩ := P3.at (unhide HTK) (show _ = some (Rnw.cna x c (N + 1) t) by rw [if_pos rfl, hkm]; rfl)
              have HT1 := hide P1
              have HT2 := hide P2
              have HT3 := hide (P3.congr (G := (fun s => if s < t + 1 then some (Rnw.cna x c (N + 1) s) else none)) (fun s _ => by
                show _ = if s = t then some (Bth.ps (fun j => Rnw.cna x c N (t - (j + 1)) * x (j + 1)) k) else if s < t then some (Rnw.cna x c (N + 1) s) else none
                by_cases q : s = t
                · subst q
                  rw [if_pos (by omega), if_pos rfl, hkm]; rfl
                · rw [if_neg q]
                  by_cases q2 : s < t
                  · rw [if_pos (by omega), if_pos q2]
                  · rw [if_neg (by omega), if_neg q2]))
              have HCO : Hid (∀ W, Below wr.heap.size wr W → (fun w' : World => w'.cell? ⟨g1, t, none⟩ = some (.pointer (some ⟨xo, 0, none⟩)) ∧ w'.cell? ⟨g3, t, none⟩ = some (.pointer (some ⟨xs, 0, none⟩))) W) := fun W hW => ⟨by rw [hW.cell (p := ⟨g1, t, none⟩) P1.lt]; exact eo, by rw [hW.cell (p := ⟨g3, t, none⟩) P3.lt]; exact es⟩
              have HZo := hide zo
              have HZs := hide zs
              have HRo := hide ((unhide HS).oca N t (unhide HTU))
              have HRn := hide ((unhide HS).cna (N + 1) t (unhide HTU))
              clear P1 P2 P3 eo es zo zs hkm
              go_wp2_with fail
              refine wp_region_till (fun w' : World => w'.cell? ⟨g1, t, none⟩ = some (.pointer (some ⟨xo, 0, none⟩)) ∧ w'.cell? ⟨g3, t, none⟩ = some (.pointer (some ⟨xs, 0, none⟩))) 12 (by kernel_rfl) ?_
              have bd0 : Below wr.heap.size wr wr.drew := (Below.refl _ _).drew
              have hC0 : (fun w' : World => w'.cell? ⟨g1, t, none⟩ = some (.pointer (some ⟨xo, 0, none⟩)) ∧ w'.cell? ⟨g3, t, none⟩ = some (.pointer (some ⟨xs, 0, none⟩))) wr.drew := unhide HCO _ bd0
              refine wpTill_pure (i := 0) (v := ?_) rfl (by kernel_rfl) (by kernel_rfl) (by kernel_rfl) (by kernel_rfl) (fun _ _ _ h => h) (Or.inl ⟨by rfl, ?_⟩) (fun _ => hC0) ?_
              rotate_left
              · intro w hSw; clear hSw; go_simp; (try with_reducible rfl)
              (try simp only [List.getElem_toArray, List.getElem_cons_succ, List.getElem_cons_zero])
              (try simp only [Act.put, List.setIfInBounds_toArray, List.set_cons_zero, List.set_cons_succ])
              refine wpTill_pure (i := 1) (v := ?_) rfl (by kernel_rfl) (by kernel_rfl) (by kernel_rfl) (by kernel_rfl) (fun _ _ _ h => h) (Or.inl ⟨by rfl, ?_⟩) (fun _ => hC0) ?_
              rotate_left
              · intro w hSw; clear hSw; go_simp; (try with_reducible rfl)
              (try simp only [List.getElem_toArray, List.getElem_cons_succ, List.getElem_cons_zero])
              (try simp only [Act.put, List.setIfInBounds_toArray, List.set_cons_zero, List.set_cons_succ])
              refine wpTill_pure (i := 2) (v := ?_) rfl (by kernel_rfl) (by kernel_rfl) (by kernel_rfl) (by kernel_rfl) (fun _ _ _ h => h) (Or.inl ⟨by rfl, ?_⟩) (fun _ => hC0) ?_
              rotate_left
              · intro w hSw; clear hSw; go_simp; (try with_reducible rfl)
              (try simp only [List.getElem_toArray, List.getElem_cons_succ, List.getElem_cons_zero])
              (try simp only [Act.put, List.setIfInBounds_toArray, List.set_cons_zero, List.set_cons_succ])
              refine wpTill_pure (i := 3) (v := ?_) rfl (by kernel_rfl) (by kernel_rfl) (by kernel_rfl) (by kernel_rfl) (fun _ _ _ h => h) (Or.inl ⟨by rfl, ?_⟩) (fun _ => hC0) ?_
              rotate_left
              · intro w hSw; clear hSw; go_simp; (try with_reducible rfl)
              (try simp only [List.getElem_toArray, List.getElem_cons_succ, List.getElem_cons_zero])
              (try simp only [Act.put, List.setIfInBounds_toArray, List.set_cons_zero, List.set_cons_succ])
              refine wpTill_pure (i := 4) (v := ?_) rfl (by kernel_rfl) (by kernel_rfl) (by kernel_rfl) (by kernel_rfl) (fun _ _ _ h => h) (Or.inl ⟨by rfl, ?_⟩) (fun _ => hC0) ?_
              rotate_left
              · intro w hSw; clear hSw; go_simp; (try with_reducible rfl)
              (try simp only [List.getElem_toArray, List.getElem_cons_succ, List.getElem_cons_zero])
              (try simp only [Act.put, List.setIfInBounds_toArray, List.set_cons_zero, List.set_cons_succ])
              refine wpTill_deep (i := 5) (v := ?_) [10, 11, 12] rfl (by kernel_rfl) (by kernel_rfl) (by kernel_rfl) (by kernel_rfl) (by kernel_rfl) (by kernel_rfl) (by kernel_rfl) (fun _ _ _ h => h) (Or.inl ⟨by rfl, ?_⟩) hC0 ?_
              rotate_left
              · intro w hSw; (try dsimp only at hSw); obtain ⟨z0, z1⟩ := hSw; go_simp; (try with_reducible rfl)
              (try simp only [List.getElem_toArray, List.getElem_cons_succ, List.getElem_cons_zero])
              (try simp only [Act.put, List.setIfInBounds_toArray, List.set_cons_zero, List.set_cons_succ])
              refine wpTill_pure (i := 6) (v := ?_) rfl (by kernel_rfl) (by kernel_rfl) (by kernel_rfl) (by kernel_rfl) (fun _ _ _ h => h) (Or.inl ⟨by rfl, ?_⟩) (fun _ => hC0) ?_
              rotate_left
              · intro w hSw; clear hSw; go_simp; (try with_reducible rfl)
              (try simp only [List.getElem_toArray, List.getElem_cons_succ, List.getElem_cons_zero])
              (try simp only [Act.put, List.setIfInBounds_toArray, List.set_cons_zero, List.set_cons_succ])
              refine wpTill_pure (i := 7) (v := ?_) rfl (by kernel_rfl) (by kernel_rfl) (by kernel_rfl) (by kernel_rfl) (fun _ _ _ h => h) (Or.inl ⟨by rfl, ?_⟩) (fun _ => hC0) ?_
              rotate_left
              · intro w hSw; clear hSw; go_simp; (try with_reducible rfl)
              (try simp only [List.getElem_toArray, List.getElem_cons_succ, List.getElem_cons_zero])
              (try simp only [Act.put, List.setIfInBounds_toArray, List.set_cons_zero, List.set_cons_succ])
              refine wpTill_pure (i := 8) (v := ?_) rfl (by kernel_rfl) (by kernel_rfl) (by kernel_rfl) (by kernel_rfl) (fun _ _ _ h => h) (Or.inl ⟨by rfl, ?_⟩) (fun _ => hC0) ?_
              rotate_left
              · intro w hSw; clear hSw; go_simp; (try with_reducible rfl)
              (try simp only [List.getElem_toArray, List.getElem_cons_succ, List.getElem_cons_zero])
              (try simp only [Act.put, List.setIfInBounds_toArray, List.set_cons_zero, List.set_cons_succ])
              refine wpTill_deep (i := 9) (v := ?_) [10, 11, 12] rfl (by kernel_rfl) (by kernel_rfl) (by kernel_rfl) (by kernel_rfl) (by kernel_rfl) (by kernel_rfl) (by kernel_rfl) (fun _ _ _ h => h) (Or.inl ⟨by rfl, ?_⟩) hC0 ?_
              rotate_left
              · intro w hSw; (try dsimp only at hSw); obtain ⟨z0, z1⟩ := hSw; go_simp; (try with_reducible rfl)
              (try simp only [List.getElem_toArray, List.getElem_cons_succ, List.getElem_cons_zero])
              (try simp only [Act.put, List.setIfInBounds_toArray, List.set_cons_zero, List.set_cons_succ])
              refine wpTill_one (k := 10) (by kernel_rfl) rfl (fun K hK => ?_)
              (try simp only [List.getElem_toArray, List.getElem_cons_succ, List.getElem_cons_zero])
              go_simp
              refine (refAdd_any xo xs S S _ _ wr.drew ((unhide HZo).below bd0) ((unhide HZs).below bd0) (unhide HRo) (unhide HRn) (unhide HSS2)).mono ?_
              rintro e x1 ⟨b1, rfl, -, hr1, hb1⟩
              have cc_1 := below_step bd0 hb1
              have hC_1 : (fun w' : World => w'.cell? ⟨g1, t, none⟩ = some (.pointer (some ⟨xo, 0, none⟩)) ∧ w'.cell? ⟨g3, t, none⟩ = some (.pointer (some ⟨xs, 0, none⟩))) x1 := unhide HCO _ cc_1
              have T1' := (unhide HT1).keep cc_1
              have ⟨kc, kf⟩ := T1'.cell (unhide HTK)
              have N1 := T1'.set (unhide HTK) hr1
              have N2 := ((unhide HT2).keep cc_1).other (v := .pointer (some ⟨b1, 0, none⟩)) kc (unhide HNE12) T1'.gl
              have N3 := ((unhide HT3).keep cc_1).other (v := .pointer (some ⟨b1, 0, none⟩)) kc (unhide HNE).1.symm T1'.gl
              have HN1 := hide N1
              have HN2 := hide N2
              have HN3 := hide N3
              clear T1' N1 N2 N3
              refine hK.out _ _ (fun _ => hC_1) ?_
              clear hK K
              (try simp only [Act.put, List.setIfInBounds_toArray, List.set_cons_zero, List.set_cons_succ])
              refine wpTill_pure (i := 11) (v := ?_) rfl (by kernel_rfl) (by kernel_rfl) (by kernel_rfl) (by kernel_rfl) (fun _ _ _ h => h) (Or.inl ⟨by rfl, ?_⟩) (fun _ => hC_1) ?_
              rotate_left
              · intro w hSw; clear hSw; go_simp; (try with_reducible rfl)
              (try simp only [List.getElem_toArray, List.getElem_cons_succ, List.getElem_cons_zero])
              (try simp only [Act.put, List.setIfInBounds_toArray, List.set_cons_zero, List.set_cons_succ])
              refine wpTill_one (k := 12) (by kernel_rfl) rfl (fun K hK => ?_)
              (try simp only [List.getElem_toArray, List.getElem_cons_succ, List.getElem_cons_zero])
              go_simp
              refine hK.out _ _ (fun h => absurd (h.symm.trans (by kernel_rfl)) Bool.false_ne_true) ?_
              clear hK K
              (try simp only [Act.put, List.setIfInBounds_toArray, List.set_cons_zero, List.set_cons_succ])
              refine wpTill_done (by kernel_rfl) ?_ _
              have HM1 := hide ((unhide HN1).congr (G := (fun s => some (if s < t + 1 then Rnw.oca x c (N + 1) s else Rnw.oca x c N s))) (fun s _ => by
                show _ = if s = t then some (Rnw.oca x c N t + Rnw.cna x c (N + 1) t) else some (if s < t then Rnw.oca x c (N + 1) s else Rnw.oca x c N s)
                by_cases q : s = t
                · subst q
                  rw [if_pos (by omega), if_pos rfl]; rfl
                · rw [if_neg q]
                  by_cases q2 : s < t
                  · rw [if_pos (by omega), if_pos q2]
                  · rw [if_neg (by omega), if_neg q2]))
              clear HCO HZo HZs HRo HRn
              go_wp2_with fail
              exact ⟨⟨t + 1, _, _, _, by go_num, unhide HTK, unhide HM1, unhide HN2, unhide HN3⟩, by have := unhide HTK; simp [intOf]; omega⟩
        · obtain rfl : t = K := by omega
          have t1 : ¬ (t : Int) < (t : Int) := by omega
          have HM1 := hide (P1.congr (G := fun s => some (Rnw.oca x c (N + 1) s)) (fun s hs => by show _ = some (if s < t then _ else _); rw [if_pos hs]))
          have HM3 := hide (P3.congr (G := fun s => some (Rnw.cna x c (N + 1) s)) (fun s hs => by show _ = if s < t then _ else _; rw [if_pos hs]))
          clear P1 P2 P3
          go_wp2_with fail
          exact ⟨⟨N + 1, g3, _, _, rfl, by go_num, unhide HNU, (unhide HNE).1.symm, unhide HM1, unhide HM3⟩, by have := unhide HNU; simp [intOf]; omega⟩
    · obtain rfl : N = up := by omega
      have jN : ¬ (N : Int) < (N : Int) := by omega
      have L := P1.list (f := Rnw.u x) (by omega) (fun j hj => by show some (Rnw.oca x c N j) = _; rw [unhide HOU j (by omega)])
      have HL := hide L
      have HB := hide P1.bl
      clear P1 P2 L
      go_wp2
      (try simp only [Exit.inBlock, Exit.then])
      (try go_wp2)
      go_ret
      exact ⟨_, rfl, unhide HL, unhide HB⟩
end Go.Proofs.YtcelbgleajpenaaGreatDoor
