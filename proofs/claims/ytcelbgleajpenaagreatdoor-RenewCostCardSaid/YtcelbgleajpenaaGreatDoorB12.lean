/- The checker's fractions in lowest terms. -/
import Derived.Test.YtcelbgleajpenaaGreatDoorB11
namespace Go.Proofs.YtcelbgleajpenaaGreatDoor
open Go.RowKit Go.Sort Go.Shelf

theorem low_parts (N : Int) (D g : Nat) (hD : 0 < D) (hg : Nat.gcd N.natAbs D = g) : ((mkRat N D).num < 0 ↔ N < 0) ∧ (mkRat N D).num.natAbs = N.natAbs / g ∧ (mkRat N D).den = D / g := by
 have gp : 0 < g := by rw [← hg]; exact Nat.gcd_pos_of_pos_right _ hD
 have e : (mkRat N D).num = N / (g : Int) ∧ (mkRat N D).den = D / g := by
  rw [Rat.mkRat_def, dif_neg (by omega), Rat.normalize_eq, ← hg]
  exact ⟨rfl, rfl⟩
 obtain ⟨k, hk⟩ : (g : Int) ∣ N := by
  rw [← hg]
  exact Int.ofNat_dvd_left.2 (Nat.gcd_dvd_left _ _)
 have e1 : N / (g : Int) = k := by rw [hk]; exact Int.mul_ediv_cancel_left _ (by omega)
 refine ⟨?_, ?_, e.2⟩
 ·rw [e.1, e1]
  constructor
  ·intro h; rw [hk]; exact Int.mul_neg_of_pos_of_neg (by omega) h
  ·intro h
   rcases Int.lt_or_le k 0 with h1 | h1
   ·exact h1
   ·have := Int.mul_nonneg (show (0 : Int) ≤ (g : Int) by omega) h1
    omega
 ·rw [e.1, e1, hk, Int.natAbs_mul, Int.natAbs_natCast, Nat.mul_div_cancel_left _ gp]
theorem low_zero {D : Nat} (hD : 0 < D) : (mkRat 0 D).num = 0 ∧ (mkRat 0 D).den = 1 := by
 have h := low_parts 0 D D hD (by simp)
 rw [Nat.div_self hD] at h
 exact ⟨by have := h.2.1; rw [Int.natAbs_zero, Nat.zero_div] at this; omega, h.2.2⟩
theorem low_one {N : Int} {D : Nat} (hD : 0 < D) (hg : Nat.gcd N.natAbs D = 1) : (mkRat N D).num = N ∧ (mkRat N D).den = D := by
 have h := low_parts N D 1 hD hg
 rw [Nat.div_one, Nat.div_one] at h
 exact ⟨by omega, h.2.2⟩
theorem div_abs {N D : Int} (h : ¬ D < 0) : mkRat N D.natAbs = Rat.divInt N D := by
 obtain ⟨d, rfl⟩ : ∃ d : Nat, D = d := ⟨D.natAbs, by omega⟩
 rw [Rat.divInt_ofNat, Int.natAbs_natCast]
theorem div_neg {N D : Int} (h : D < 0) : mkRat (-N) (-D).natAbs = Rat.divInt N D := by
 rw [div_abs (by omega), Rat.divInt_neg']
 simp

theorem one_word {w : World} {a : Option Addr} {n c : Nat} {D : Int} (h : HNat w (.slice a n c) D) : (∃ b o, a = some ⟨b, o, none⟩ ∧ n = 1 ∧ D = 1 ∧ w.cell? ⟨b, o, none⟩ = some (.int .u32 1)) ∨ (∃ b o t, a = some ⟨b, o, none⟩ ∧ n = 1 ∧ D ≠ 1 ∧ w.cell? ⟨b, o, none⟩ = some (.int .u32 t) ∧ (t == 1) = false) ∨ (((n : Int) == 1) = false ∧ D ≠ 1) := by
 obtain ⟨a', n', c', e, hl, _, _, h3⟩ := h
 injection e with e1 e2 e3
 subst e1 e2 e3
 by_cases hn : n = 1
 ·subst hn
  obtain ⟨b, o, rfl, _, hc⟩ := h3 (by decide)
  have h0 := hc 0 (by decide)
  have hv : Wh.vl (Wh.dig D) 1 = D := Wh.vl_dig_all hl.1 hl.2.1
  have hd : Wh.dig D 0 = D := by simpa [Wh.vl, Wh.pw] using hv
  rw [hd, Nat.add_zero] at h0
  by_cases h1 : D = 1
  ·exact Or.inl ⟨b, o, rfl, rfl, h1, by rw [h0, h1]⟩
  ·exact Or.inr (Or.inl ⟨b, o, D, rfl, rfl, h1, h0, by simp [h1]⟩)
 ·refine Or.inr (Or.inr ⟨by simp; omega, fun e => hn ?_⟩)
  exact Wh.Len.uniq hl (by rw [e]; exact ⟨by decide, by decide, Or.inr (by decide)⟩)
theorem len_nz {w : World} {a : Option Addr} {n c : Nat} {D : Int} (h : HNat w (.slice a n c) D) (hD : D ≠ 0) : ((n : Int) == 0) = false := by
 obtain ⟨a', n', c', e, hl, _⟩ := h
 injection e with e1 e2 e3
 subst e2
 rcases Nat.eq_zero_or_pos n with h0 | h0
 ·subst h0; exact absurd hl.zero hD
 ·simp; omega
theorem len_z {w : World} {a : Option Addr} {n c : Nat} (h : HNat w (.slice a n c) 0) : n = 0 := by
 obtain ⟨a', n', c', e, hl, _⟩ := h
 injection e with e1 e2 e3
 subst e2
 exact hl.of_zero

theorem BInt.setAbs {w : World} {b o : Nat} {N M : Int} {a : Option Addr} {n c : Nat} (h : BInt w b o N) (hs : M < 0 ↔ N < 0) (hv : HNat w (.slice a n c) (M.natAbs : Int)) : BInt (w.setCell ⟨b, o + 1, none⟩ (.slice a n c)) b o M := by
 have ne1 : (⟨b, o + 1, none⟩ : Addr) ≠ ⟨b, o, none⟩ := fun e => by injection e with _ e; omega
 obtain ⟨a0, n0, c0, ea, _⟩ := h.ab
 refine ⟨?_, ⟨a, n, c, World.cell?_setCell_same _ _ _ ea, hv.setAt _ _ h.slot.nos.2⟩, by simp [h.fs], by simp [h.fa], by simpa [World.setCell] using h.lt⟩
 rw [World.cell?_setCell_other _ _ _ _ ne1, h.sg]
 simp [hs]
theorem BInt.setOff {w : World} {b o b' o' : Nat} {v : Value} {N : Int} (h : BInt w b' o' N) (k : SlotI w b o) (ha : ApartI b o b' o') : BInt (w.setCell ⟨b, o + 1, none⟩ v) b' o' N := by
 obtain ⟨a, n, c, e, hn⟩ := h.ab
 have n01 : (⟨b, o + 1, none⟩ : Addr) ≠ ⟨b', o', none⟩ := fun e => by
  injection e with e1 e2
  have := ha e1
  omega
 have n11 : (⟨b, o + 1, none⟩ : Addr) ≠ ⟨b', o' + 1, none⟩ := fun e => by
  injection e with e1 e2
  have := ha e1
  omega
 refine ⟨?_, ⟨a, n, c, ?_, hn.setAt _ _ k.nos.2⟩, by simp [h.fs], by simp [h.fa], by simpa [World.setCell] using h.lt⟩
 ·rw [World.cell?_setCell_other _ _ _ _ n01]; exact h.sg
 ·rw [World.cell?_setCell_other _ _ _ _ n11]; exact e

structure Divs (P : Nat → Prop) : Prop where
 down : ∀ m k, k ≤ m → P m → P k
 sm : ∀ m : Nat, P m → SmH (m : Int)
 cm : ∀ (W : World) (va vb : Value) (A B : Nat), HNat W va (A : Int) → HNat W vb (B : Int) → P A → P B → 0 < B → Calls Tryz.prog 149 #[va, vb] W fun e w' => ∃ v, e = .returned v ∧ HNat w' v ((Nat.gcd A B : Nat) : Int) ∧ Below W.heap.size W w'
 dv : ∀ (W : World) (va vb : Value) (A B : Nat), HNat W va (A : Int) → HNat W vb (B : Int) → P A → P B → 0 < B → Calls Tryz.prog 150 #[va, vb] W fun e w' => ∃ v u, e = .returned (.tuple #[v, u]) ∧ HNat w' v ((A / B : Nat) : Int) ∧ Below W.heap.size W w'
theorem divs_small : Divs (fun m => m < 18446744073709551616) where
 down := fun m k h1 h2 => by omega
 sm := fun m h => smh_small (by omega)
 cm := fun W va vb A B ha hb pa pb hB => commonS_any va vb A B W ha hb pa pb hB
 dv := fun W va vb A B ha hb pa pb hB => (divS_any va vb A B W ha hb (by omega) (by omega)).mono (by rintro e w' ⟨v, u, rfl, h1, h2, h3⟩; exact ⟨v, u, rfl, by simpa using h1, h3⟩)
def MakesAt (w : World) (b o : Nat) (q : Rat) (e : Ending) (w' : World) : Prop := e = .returned (.pointer (some ⟨b, o, none⟩)) ∧ BRat w' b o q ∧ ∀ w0, Below w0.heap.size w0 w → w0.heap.size ≤ b → Below w0.heap.size w0 w'
theorem apart02 (b o : Nat) : ApartI b o b (o + 2) := fun _ => Or.inl (by omega)
theorem apart20 (b o : Nat) : ApartI b (o + 2) b o := fun _ => Or.inr (by omega)

set_option maxHeartbeats 16000000 in
set_option maxRecDepth 100000 in
set_option linter.unusedSimpArgs false in
theorem norm_pos (P : Nat → Prop) (dv : Divs P) (b o : Nat) (N D : Int) (w : World) (x : BInt w b o N) (y : BInt w b (o + 2) D) (hD : D ≠ 0) (pn : P N.natAbs) (pd : P D.natAbs) (hng : ¬ D < 0) :
  Calls Tryz.prog 116 #[.pointer (some ⟨b, o, none⟩)] w (MakesAt w b o (Rat.divInt N D)) := by
 have HDV := hide dv
 have HPN := hide pn
 have HPD := hide pd
 clear dv pn pd
 obtain ⟨N1, hN1⟩ : ∃ N1, N = N1 := ⟨_, rfl⟩
 obtain ⟨D1, hD1⟩ : ∃ D1, D = D1 := ⟨_, rfl⟩
 have HD0 : Hid (0 < D1) := by show _ < _; omega
 have HQ : Hid (mkRat N1 D1.natAbs = Rat.divInt N D) := by show _ = _; rw [← hN1, ← hD1]; exact div_abs hng
 rw [hN1] at x HPN
 rw [hD1] at y HPD
 have HFR : Hid (∀ w0 : World, Below w0.heap.size w0 w → w0.heap.size ≤ b → Below w0.heap.size w0 w) := fun w0 h0 _ => h0
 clear hng hN1 hD1 hD
 have HXX : Hid (∀ V, Below w.heap.size w V → BInt V b o N1) := fun V hV => x.below hV
 have HYY : Hid (∀ V, Below w.heap.size w V → BInt V b (o + 2) D1) := fun V hV => y.below hV
 have HDN : Hid (0 < D1.natAbs) := by show _ < _; have := unhide HD0; omega
 obtain ⟨a, n, c, ea, hn⟩ := x.ab
 obtain ⟨a2, n2, c2, ea2, hn2⟩ := y.ab
 have HCC : Hid (∀ V, Below w.heap.size w V → (fun w' : World => w'.cell? ⟨b, o + 1, none⟩ = some (.slice a n c) ∧ w'.cell? ⟨b, o + 2 + 1, none⟩ = some (.slice a2 n2 c2)) V) := fun V hV => ⟨by rw [hV.cell (p := ⟨b, o + 1, none⟩) x.lt]; exact ea, by rw [hV.cell (p := ⟨b, o + 2 + 1, none⟩) y.lt]; exact ea2⟩
 have hz2 : ((n2 : Int) == 0) = false := len_nz hn2 (by have := unhide HD0; omega)
 have es2 := y.sg
 rw [decide_eq_false (show ¬ D1 < 0 by have := unhide HD0; omega)] at es2
 have HN := hide hn
 have HN2 := hide hn2
 have HK := hide y.slot
 clear x y
 by_cases hN0 : N1 = 0
 ·have hn0 : n = 0 := len_z (w := w) (a := a) (c := c) (by rw [hN0] at hn; exact hn)
  subst hn0
  have HNN := hide hN0
  clear hn hn2 hN0
  go_enter Tryz.func116, Tryz.ntmps116
  go_wp2_with fail
  refine (setInt64_any b (o + 2) 1 (by decide) (by decide) w (unhide HK)).mono ?_
  intro e w3 hG
  have R1 := hide (hG.other (unhide HK) (unhide HXX w (Below.refl _ _)) (apart20 b o))
  have R2 := hide (hG.int (unhide HK))
  have R3 : Hid (∀ w0 : World, Below w0.heap.size w0 w → w0.heap.size ≤ b → Below w0.heap.size w0 w3) := fun w0 h0 hb => hG.bl (unhide HFR w0 h0 hb) hb
  obtain ⟨rfl, _⟩ := hG
  have hlo := low_zero (D := D1.natAbs) (unhide HDN)
  have HLO := hide hlo
  clear hlo
  go_wp2
  go_ret
  exact ⟨rfl, by rw [← unhide HQ]; have h1 := unhide R1; rw [unhide HNN] at h1 ⊢; exact ⟨by rw [(unhide HLO).1]; exact h1, by rw [(unhide HLO).2]; exact unhide R2⟩, unhide R3⟩
 have hz1 : ((n : Int) == 0) = false := len_nz hn (by omega)
 clear hN0 hn
 rcases one_word hn2 with ⟨b4, o4, rfl, rfl, hD1, hc4⟩ | ⟨b4, o4, t4, rfl, rfl, hD1, hc4, ht4⟩ | ⟨ht4, hD1⟩
 ·clear hn2
  have hlo := low_one (N := N1) (D := D1.natAbs) (unhide HDN) (by rw [show D1.natAbs = 1 by omega, Nat.gcd_one_right])
  have HLO := hide hlo
  clear hlo hD1
  go_enter Tryz.func116, Tryz.ntmps116
  go_wp2
  go_ret
  exact ⟨rfl, by rw [← unhide HQ]; exact ⟨by rw [(unhide HLO).1]; exact unhide HXX w (Below.refl _ _), by rw [(unhide HLO).2, show ((D1.natAbs : Nat) : Int) = D1 by have := unhide HD0; omega]; exact unhide HYY w (Below.refl _ _)⟩, unhide HFR⟩
 ·clear hn2 hD1
  go_enter Tryz.func116, Tryz.ntmps116
  go_wp2_with fail
  refine wp_region_hold (fun w' : World => w'.cell? ⟨b, o + 1, none⟩ = some (.slice a n c) ∧ w'.cell? ⟨b, o + 2 + 1, none⟩ = some (.slice (some ⟨b4, o4, none⟩) 1 c2)) (by kernel_rfl) ?_
  have bd0 : Below w.heap.size w w.drew := (Below.refl _ _).drew
  have hC0 : (fun w' : World => w'.cell? ⟨b, o + 1, none⟩ = some (.slice a n c) ∧ w'.cell? ⟨b, o + 2 + 1, none⟩ = some (.slice (some ⟨b4, o4, none⟩) 1 c2)) w.drew := unhide HCC _ bd0
  refine wpHold_take (i := 0) (v := ?_) rfl (by kernel_rfl) (by kernel_rfl) (by kernel_rfl) (fun _ _ _ h => h) (Or.inl ⟨by rfl, ?_⟩) hC0 ?_
  rotate_left
  ·intro w hSw; clear hSw; go_simp; (try with_reducible rfl)
  (try simp only [List.getElem_toArray, List.getElem_cons_succ, List.getElem_cons_zero])
  (try simp only [Act.put, List.setIfInBounds_toArray, List.set_cons_zero, List.set_cons_succ])
  refine wpHold_take (i := 1) (v := ?_) rfl (by kernel_rfl) (by kernel_rfl) (by kernel_rfl) (fun _ _ _ h => h) (Or.inl ⟨by rfl, ?_⟩) hC0 ?_
  rotate_left
  ·intro w hSw; clear hSw; go_simp; (try with_reducible rfl)
  (try simp only [List.getElem_toArray, List.getElem_cons_succ, List.getElem_cons_zero])
  (try simp only [Act.put, List.setIfInBounds_toArray, List.set_cons_zero, List.set_cons_succ])
  refine wpHold_take (i := 2) (v := ?_) rfl (by kernel_rfl) (by kernel_rfl) (by kernel_rfl) (fun _ _ _ h => h) (Or.inl ⟨by rfl, ?_⟩) hC0 ?_
  rotate_left
  ·intro w hSw; clear hSw; go_simp; (try with_reducible rfl)
  (try simp only [List.getElem_toArray, List.getElem_cons_succ, List.getElem_cons_zero])
  (try simp only [Act.put, List.setIfInBounds_toArray, List.set_cons_zero, List.set_cons_succ])
  refine wpHold_take (i := 3) (v := ?_) rfl (by kernel_rfl) (by kernel_rfl) (by kernel_rfl) (fun _ _ _ h => h) (Or.inl ⟨by rfl, ?_⟩) hC0 ?_
  rotate_left
  ·intro w hSw; clear hSw; go_simp; (try with_reducible rfl)
  (try simp only [List.getElem_toArray, List.getElem_cons_succ, List.getElem_cons_zero])
  (try simp only [Act.put, List.setIfInBounds_toArray, List.set_cons_zero, List.set_cons_succ])
  refine wpHold_take (i := 4) (v := ?_) rfl (by kernel_rfl) (by kernel_rfl) (by kernel_rfl) (fun _ _ _ h => h) (Or.inl ⟨by rfl, ?_⟩) hC0 ?_
  rotate_left
  ·intro w hSw; (try dsimp only at hSw); obtain ⟨z0, z1⟩ := hSw; go_simp; (try with_reducible rfl)
  (try simp only [List.getElem_toArray, List.getElem_cons_succ, List.getElem_cons_zero])
  (try simp only [Act.put, List.setIfInBounds_toArray, List.set_cons_zero, List.set_cons_succ])
  refine wpHold_take (i := 5) (v := ?_) rfl (by kernel_rfl) (by kernel_rfl) (by kernel_rfl) (fun _ _ _ h => h) (Or.inl ⟨by rfl, ?_⟩) hC0 ?_
  rotate_left
  ·intro w hSw; clear hSw; go_simp; (try with_reducible rfl)
  (try simp only [List.getElem_toArray, List.getElem_cons_succ, List.getElem_cons_zero])
  (try simp only [Act.put, List.setIfInBounds_toArray, List.set_cons_zero, List.set_cons_succ])
  refine wpHold_take (i := 6) (v := ?_) rfl (by kernel_rfl) (by kernel_rfl) (by kernel_rfl) (fun _ _ _ h => h) (Or.inl ⟨by rfl, ?_⟩) hC0 ?_
  rotate_left
  ·intro w hSw; clear hSw; go_simp; (try with_reducible rfl)
  (try simp only [List.getElem_toArray, List.getElem_cons_succ, List.getElem_cons_zero])
  (try simp only [Act.put, List.setIfInBounds_toArray, List.set_cons_zero, List.set_cons_succ])
  refine wpHold_take (i := 7) (v := ?_) rfl (by kernel_rfl) (by kernel_rfl) (by kernel_rfl) (fun _ _ _ h => h) (Or.inl ⟨by rfl, ?_⟩) hC0 ?_
  rotate_left
  ·intro w hSw; clear hSw; go_simp; (try with_reducible rfl)
  (try simp only [List.getElem_toArray, List.getElem_cons_succ, List.getElem_cons_zero])
  (try simp only [Act.put, List.setIfInBounds_toArray, List.set_cons_zero, List.set_cons_succ])
  refine wpHold_take (i := 8) (v := ?_) rfl (by kernel_rfl) (by kernel_rfl) (by kernel_rfl) (fun _ _ _ h => h) (Or.inl ⟨by rfl, ?_⟩) hC0 ?_
  rotate_left
  ·intro w hSw; clear hSw; go_simp; (try with_reducible rfl)
  (try simp only [List.getElem_toArray, List.getElem_cons_succ, List.getElem_cons_zero])
  (try simp only [Act.put, List.setIfInBounds_toArray, List.set_cons_zero, List.set_cons_succ])
  refine wpHold_take (i := 9) (v := ?_) rfl (by kernel_rfl) (by kernel_rfl) (by kernel_rfl) (fun _ _ _ h => h) (Or.inl ⟨by rfl, ?_⟩) hC0 ?_
  rotate_left
  ·intro w hSw; (try dsimp only at hSw); obtain ⟨z0, z1⟩ := hSw; go_simp; (try with_reducible rfl)
  (try simp only [List.getElem_toArray, List.getElem_cons_succ, List.getElem_cons_zero])
  (try simp only [Act.put, List.setIfInBounds_toArray, List.set_cons_zero, List.set_cons_succ])
  refine wpHold_one (k := 10) (by kernel_rfl) rfl (fun K hK => ?_)
  (try simp only [List.getElem_toArray, List.getElem_cons_succ, List.getElem_cons_zero])
  go_simp
  refine ((unhide HDV).cm _ _ _ N1.natAbs D1.natAbs ((unhide HN).below bd0) ((unhide HN2).below bd0) (unhide HPN) (unhide HPD) (unhide HDN)).mono ?_
  rintro e w5 ⟨v5, rfl, hv5, hb5⟩
  obtain ⟨a5, n5, c5, rfl, _⟩ := id hv5
  have cc_1 := bstep bd0 hb5
  have hC_1 : (fun w' : World => w'.cell? ⟨b, o + 1, none⟩ = some (.slice a n c) ∧ w'.cell? ⟨b, o + 2 + 1, none⟩ = some (.slice (some ⟨b4, o4, none⟩) 1 c2)) w5 := unhide HCC _ cc_1
  refine hK.out _ _ hC_1 ?_
  clear hK K
  (try simp only [Act.put, List.setIfInBounds_toArray, List.set_cons_zero, List.set_cons_succ])
  refine wpHold_one (k := 11) (by kernel_rfl) rfl (fun K hK => ?_)
  (try simp only [List.getElem_toArray, List.getElem_cons_succ, List.getElem_cons_zero])
  go_simp
  refine hK.out _ _ hC_1 ?_
  clear hK K
  (try simp only [Act.put, List.setIfInBounds_toArray, List.set_cons_zero, List.set_cons_succ])
  refine wpHold_done (by kernel_rfl) ?_ _
  have HB5 := hide cc_1
  have HV5 := hide hv5
  have HN5 := hide ((unhide HN).below cc_1)
  have HN25 := hide ((unhide HN2).below cc_1)
  have HC5 : Hid (∀ V, Below w5.heap.size w5 V → (fun w' : World => w'.cell? ⟨b, o + 1, none⟩ = some (.slice a n c) ∧ w'.cell? ⟨b, o + 2 + 1, none⟩ = some (.slice (some ⟨b4, o4, none⟩) 1 c2)) V) := fun V hV => unhide HCC V (bstep (unhide HB5) hV)
  obtain ⟨d1, d2⟩ := hC_1
  clear cc_1 hb5 bd0 hC0
  obtain ⟨G, hG⟩ : ∃ G, Nat.gcd N1.natAbs D1.natAbs = G := ⟨_, rfl⟩
  rw [hG] at HV5 hv5
  have HGG := hide hG
  have HG0 : Hid (0 < G) := by show _ < _; rw [← hG]; exact Nat.gcd_pos_of_pos_right _ (unhide HDN)
  have HPG : Hid (_ : Prop) := hide ((unhide HDV).down D1.natAbs G (by rw [← hG]; exact Nat.gcd_le_right _ (unhide HDN)) (unhide HPD))
  clear hG
  rcases one_word hv5 with ⟨b5, o5, rfl, rfl, hG1, hc5⟩ | ⟨b5, o5, t5, rfl, rfl, hG1, hc5, ht5⟩ | ⟨ht5, hG1⟩
  ·clear hv5
   have hG2 : G = 1 := by omega
   have hlo := low_one (N := N1) (D := D1.natAbs) (unhide HDN) (by rw [unhide HGG]; exact hG2)
   have HLO := hide hlo
   clear hG1 hG2 hlo
   go_wp2
   go_ret
   exact ⟨rfl, by rw [← unhide HQ]; exact ⟨by rw [(unhide HLO).1]; exact unhide HXX w5 (unhide HB5), by rw [(unhide HLO).2, show ((D1.natAbs : Nat) : Int) = D1 by have := unhide HD0; omega]; exact unhide HYY w5 (unhide HB5)⟩, fun w0 h0 hb => bstep (unhide HFR w0 h0 hb) (unhide HB5)⟩
  ·clear hv5 hG1
   go_wp2_with fail
   refine ((unhide HDV).dv w5 (.slice a n c) (.slice (some ⟨b5, o5, none⟩) 1 c5) N1.natAbs G (unhide HN5) (unhide HV5) (unhide HPN) (unhide HPG) (unhide HG0)).mono ?_
   rintro e w6 ⟨v6, u6, rfl, hv6, hb6⟩
   have l2 := (unhide HYY w5 (unhide HB5)).below hb6
   obtain ⟨a2', n2', c2', l3, _⟩ := l2.ab
   have l4 : w6.cell? ⟨b, o + 2 + 1, none⟩ = some (.slice (some ⟨b4, o4, none⟩) 1 c2) := (unhide HC5 w6 hb6).2
   have HV6 := hide hv6
   have HB6 := hide (bstep (unhide HB5) hb6)
   have HN26 := hide ((unhide HN25).below hb6)
   have HV56 := hide ((unhide HV5).below hb6)
   clear hv6 hb6 l2 l3 d1 d2
   go_wp2_with fail
   refine ((unhide HDV).dv w6 (.slice (some ⟨b4, o4, none⟩) 1 c2) (.slice (some ⟨b5, o5, none⟩) 1 c5) D1.natAbs G (unhide HN26) (unhide HV56) (unhide HPD) (unhide HPG) (unhide HG0)).mono ?_
   rintro e w7 ⟨v7, u7, rfl, hv7, hb7⟩
   have HV67 : Hid (HNat w7 v6 _) := (unhide HV6).below hb7
   have HB7 := hide (bstep (unhide HB6) hb7)
   have HV7 := hide hv7
   obtain ⟨a6, n6, c6, rfl, _⟩ := id (unhide HV67)
   obtain ⟨a7, n7, c7, rfl, _⟩ := id (unhide HV7)
   have x7 := unhide HXX w7 (unhide HB7)
   have y7 := unhide HYY w7 (unhide HB7)
   have f1 := x7.fa
   have f2 := y7.fa
   have ⟨k1, k2⟩ := unhide HCC w7 (unhide HB7)
   have k3 : (w7.setCell ⟨b, o + 1, none⟩ (.slice a6 n6 c6)).cell? ⟨b, o + 2 + 1, none⟩ = some (.slice (some ⟨b4, o4, none⟩) 1 c2) := by
    rw [World.cell?_setCell_other _ _ _ _ (fun e => by injection e with _ e; omega)]; exact k2
   have hlow := low_parts N1 D1.natAbs G (by have := unhide HD0; omega) (unhide HGG)
   have r1 : BInt (w7.setCell ⟨b, o + 1, none⟩ (.slice a6 n6 c6)) b o (mkRat N1 D1.natAbs).num := x7.setAbs hlow.1 (by rw [hlow.2.1]; exact unhide HV67)
   have r2 := (y7.setOff (v := .slice a6 n6 c6) x7.slot (apart02 b o)).setAbs (M := ((mkRat N1 D1.natAbs).den : Int)) (a := a7) (n := n7) (c := c7) ⟨fun h => by omega, fun h => by have := unhide HD0; omega⟩ ((by rw [Int.natAbs_natCast, hlow.2.2]; exact unhide HV7 : HNat w7 (.slice a7 n7 c7) (((mkRat N1 D1.natAbs).den : Int).natAbs : Int)).setAt _ _ x7.slot.nos.2)
   have R1 := hide (r1.setOff (v := .slice a7 n7 c7) (y7.setOff (v := .slice a6 n6 c6) x7.slot (apart02 b o)).slot (apart20 b o))
   have R2 := hide r2
   clear x7 y7 k2 hlow r1 r2 hv7 hb7 l4
   go_wp2
   go_ret
   exact ⟨rfl, by rw [← unhide HQ]; exact ⟨unhide R1, unhide R2⟩, fun w0 h0 hb => ((bstep (unhide HFR w0 h0 hb) (unhide HB7)).setCell (p := ⟨b, o + 1, none⟩) hb _).setCell (p := ⟨b, o + 2 + 1, none⟩) hb _⟩
  ·clear hv5 hG1
   go_wp2_with fail
   refine ((unhide HDV).dv w5 (.slice a n c) (.slice a5 n5 c5) N1.natAbs G (unhide HN5) (unhide HV5) (unhide HPN) (unhide HPG) (unhide HG0)).mono ?_
   rintro e w6 ⟨v6, u6, rfl, hv6, hb6⟩
   have l2 := (unhide HYY w5 (unhide HB5)).below hb6
   obtain ⟨a2', n2', c2', l3, _⟩ := l2.ab
   have l4 : w6.cell? ⟨b, o + 2 + 1, none⟩ = some (.slice (some ⟨b4, o4, none⟩) 1 c2) := (unhide HC5 w6 hb6).2
   have HV6 := hide hv6
   have HB6 := hide (bstep (unhide HB5) hb6)
   have HN26 := hide ((unhide HN25).below hb6)
   have HV56 := hide ((unhide HV5).below hb6)
   clear hv6 hb6 l2 l3 d1 d2
   go_wp2_with fail
   refine ((unhide HDV).dv w6 (.slice (some ⟨b4, o4, none⟩) 1 c2) (.slice a5 n5 c5) D1.natAbs G (unhide HN26) (unhide HV56) (unhide HPD) (unhide HPG) (unhide HG0)).mono ?_
   rintro e w7 ⟨v7, u7, rfl, hv7, hb7⟩
   have HV67 : Hid (HNat w7 v6 _) := (unhide HV6).below hb7
   have HB7 := hide (bstep (unhide HB6) hb7)
   have HV7 := hide hv7
   obtain ⟨a6, n6, c6, rfl, _⟩ := id (unhide HV67)
   obtain ⟨a7, n7, c7, rfl, _⟩ := id (unhide HV7)
   have x7 := unhide HXX w7 (unhide HB7)
   have y7 := unhide HYY w7 (unhide HB7)
   have f1 := x7.fa
   have f2 := y7.fa
   have ⟨k1, k2⟩ := unhide HCC w7 (unhide HB7)
   have k3 : (w7.setCell ⟨b, o + 1, none⟩ (.slice a6 n6 c6)).cell? ⟨b, o + 2 + 1, none⟩ = some (.slice (some ⟨b4, o4, none⟩) 1 c2) := by
    rw [World.cell?_setCell_other _ _ _ _ (fun e => by injection e with _ e; omega)]; exact k2
   have hlow := low_parts N1 D1.natAbs G (by have := unhide HD0; omega) (unhide HGG)
   have r1 : BInt (w7.setCell ⟨b, o + 1, none⟩ (.slice a6 n6 c6)) b o (mkRat N1 D1.natAbs).num := x7.setAbs hlow.1 (by rw [hlow.2.1]; exact unhide HV67)
   have r2 := (y7.setOff (v := .slice a6 n6 c6) x7.slot (apart02 b o)).setAbs (M := ((mkRat N1 D1.natAbs).den : Int)) (a := a7) (n := n7) (c := c7) ⟨fun h => by omega, fun h => by have := unhide HD0; omega⟩ ((by rw [Int.natAbs_natCast, hlow.2.2]; exact unhide HV7 : HNat w7 (.slice a7 n7 c7) (((mkRat N1 D1.natAbs).den : Int).natAbs : Int)).setAt _ _ x7.slot.nos.2)
   have R1 := hide (r1.setOff (v := .slice a7 n7 c7) (y7.setOff (v := .slice a6 n6 c6) x7.slot (apart02 b o)).slot (apart20 b o))
   have R2 := hide r2
   clear x7 y7 k2 hlow r1 r2 hv7 hb7 l4
   go_wp2
   go_ret
   exact ⟨rfl, by rw [← unhide HQ]; exact ⟨unhide R1, unhide R2⟩, fun w0 h0 hb => ((bstep (unhide HFR w0 h0 hb) (unhide HB7)).setCell (p := ⟨b, o + 1, none⟩) hb _).setCell (p := ⟨b, o + 2 + 1, none⟩) hb _⟩
 ·clear hn2 hD1
  go_enter Tryz.func116, Tryz.ntmps116
  go_wp2_with fail
  refine wp_region_hold (fun w' : World => w'.cell? ⟨b, o + 1, none⟩ = some (.slice a n c) ∧ w'.cell? ⟨b, o + 2 + 1, none⟩ = some (.slice a2 n2 c2)) (by kernel_rfl) ?_
  have bd0 : Below w.heap.size w w.drew := (Below.refl _ _).drew
  have hC0 : (fun w' : World => w'.cell? ⟨b, o + 1, none⟩ = some (.slice a n c) ∧ w'.cell? ⟨b, o + 2 + 1, none⟩ = some (.slice a2 n2 c2)) w.drew := unhide HCC _ bd0
  refine wpHold_take (i := 0) (v := ?_) rfl (by kernel_rfl) (by kernel_rfl) (by kernel_rfl) (fun _ _ _ h => h) (Or.inl ⟨by rfl, ?_⟩) hC0 ?_
  rotate_left
  ·intro w hSw; clear hSw; go_simp; (try with_reducible rfl)
  (try simp only [List.getElem_toArray, List.getElem_cons_succ, List.getElem_cons_zero])
  (try simp only [Act.put, List.setIfInBounds_toArray, List.set_cons_zero, List.set_cons_succ])
  refine wpHold_take (i := 1) (v := ?_) rfl (by kernel_rfl) (by kernel_rfl) (by kernel_rfl) (fun _ _ _ h => h) (Or.inl ⟨by rfl, ?_⟩) hC0 ?_
  rotate_left
  ·intro w hSw; clear hSw; go_simp; (try with_reducible rfl)
  (try simp only [List.getElem_toArray, List.getElem_cons_succ, List.getElem_cons_zero])
  (try simp only [Act.put, List.setIfInBounds_toArray, List.set_cons_zero, List.set_cons_succ])
  refine wpHold_take (i := 2) (v := ?_) rfl (by kernel_rfl) (by kernel_rfl) (by kernel_rfl) (fun _ _ _ h => h) (Or.inl ⟨by rfl, ?_⟩) hC0 ?_
  rotate_left
  ·intro w hSw; clear hSw; go_simp; (try with_reducible rfl)
  (try simp only [List.getElem_toArray, List.getElem_cons_succ, List.getElem_cons_zero])
  (try simp only [Act.put, List.setIfInBounds_toArray, List.set_cons_zero, List.set_cons_succ])
  refine wpHold_take (i := 3) (v := ?_) rfl (by kernel_rfl) (by kernel_rfl) (by kernel_rfl) (fun _ _ _ h => h) (Or.inl ⟨by rfl, ?_⟩) hC0 ?_
  rotate_left
  ·intro w hSw; clear hSw; go_simp; (try with_reducible rfl)
  (try simp only [List.getElem_toArray, List.getElem_cons_succ, List.getElem_cons_zero])
  (try simp only [Act.put, List.setIfInBounds_toArray, List.set_cons_zero, List.set_cons_succ])
  refine wpHold_take (i := 4) (v := ?_) rfl (by kernel_rfl) (by kernel_rfl) (by kernel_rfl) (fun _ _ _ h => h) (Or.inl ⟨by rfl, ?_⟩) hC0 ?_
  rotate_left
  ·intro w hSw; (try dsimp only at hSw); obtain ⟨z0, z1⟩ := hSw; go_simp; (try with_reducible rfl)
  (try simp only [List.getElem_toArray, List.getElem_cons_succ, List.getElem_cons_zero])
  (try simp only [Act.put, List.setIfInBounds_toArray, List.set_cons_zero, List.set_cons_succ])
  refine wpHold_take (i := 5) (v := ?_) rfl (by kernel_rfl) (by kernel_rfl) (by kernel_rfl) (fun _ _ _ h => h) (Or.inl ⟨by rfl, ?_⟩) hC0 ?_
  rotate_left
  ·intro w hSw; clear hSw; go_simp; (try with_reducible rfl)
  (try simp only [List.getElem_toArray, List.getElem_cons_succ, List.getElem_cons_zero])
  (try simp only [Act.put, List.setIfInBounds_toArray, List.set_cons_zero, List.set_cons_succ])
  refine wpHold_take (i := 6) (v := ?_) rfl (by kernel_rfl) (by kernel_rfl) (by kernel_rfl) (fun _ _ _ h => h) (Or.inl ⟨by rfl, ?_⟩) hC0 ?_
  rotate_left
  ·intro w hSw; clear hSw; go_simp; (try with_reducible rfl)
  (try simp only [List.getElem_toArray, List.getElem_cons_succ, List.getElem_cons_zero])
  (try simp only [Act.put, List.setIfInBounds_toArray, List.set_cons_zero, List.set_cons_succ])
  refine wpHold_take (i := 7) (v := ?_) rfl (by kernel_rfl) (by kernel_rfl) (by kernel_rfl) (fun _ _ _ h => h) (Or.inl ⟨by rfl, ?_⟩) hC0 ?_
  rotate_left
  ·intro w hSw; clear hSw; go_simp; (try with_reducible rfl)
  (try simp only [List.getElem_toArray, List.getElem_cons_succ, List.getElem_cons_zero])
  (try simp only [Act.put, List.setIfInBounds_toArray, List.set_cons_zero, List.set_cons_succ])
  refine wpHold_take (i := 8) (v := ?_) rfl (by kernel_rfl) (by kernel_rfl) (by kernel_rfl) (fun _ _ _ h => h) (Or.inl ⟨by rfl, ?_⟩) hC0 ?_
  rotate_left
  ·intro w hSw; clear hSw; go_simp; (try with_reducible rfl)
  (try simp only [List.getElem_toArray, List.getElem_cons_succ, List.getElem_cons_zero])
  (try simp only [Act.put, List.setIfInBounds_toArray, List.set_cons_zero, List.set_cons_succ])
  refine wpHold_take (i := 9) (v := ?_) rfl (by kernel_rfl) (by kernel_rfl) (by kernel_rfl) (fun _ _ _ h => h) (Or.inl ⟨by rfl, ?_⟩) hC0 ?_
  rotate_left
  ·intro w hSw; (try dsimp only at hSw); obtain ⟨z0, z1⟩ := hSw; go_simp; (try with_reducible rfl)
  (try simp only [List.getElem_toArray, List.getElem_cons_succ, List.getElem_cons_zero])
  (try simp only [Act.put, List.setIfInBounds_toArray, List.set_cons_zero, List.set_cons_succ])
  refine wpHold_one (k := 10) (by kernel_rfl) rfl (fun K hK => ?_)
  (try simp only [List.getElem_toArray, List.getElem_cons_succ, List.getElem_cons_zero])
  go_simp
  refine ((unhide HDV).cm _ _ _ N1.natAbs D1.natAbs ((unhide HN).below bd0) ((unhide HN2).below bd0) (unhide HPN) (unhide HPD) (unhide HDN)).mono ?_
  rintro e w5 ⟨v5, rfl, hv5, hb5⟩
  obtain ⟨a5, n5, c5, rfl, _⟩ := id hv5
  have cc_1 := bstep bd0 hb5
  have hC_1 : (fun w' : World => w'.cell? ⟨b, o + 1, none⟩ = some (.slice a n c) ∧ w'.cell? ⟨b, o + 2 + 1, none⟩ = some (.slice a2 n2 c2)) w5 := unhide HCC _ cc_1
  refine hK.out _ _ hC_1 ?_
  clear hK K
  (try simp only [Act.put, List.setIfInBounds_toArray, List.set_cons_zero, List.set_cons_succ])
  refine wpHold_one (k := 11) (by kernel_rfl) rfl (fun K hK => ?_)
  (try simp only [List.getElem_toArray, List.getElem_cons_succ, List.getElem_cons_zero])
  go_simp
  refine hK.out _ _ hC_1 ?_
  clear hK K
  (try simp only [Act.put, List.setIfInBounds_toArray, List.set_cons_zero, List.set_cons_succ])
  refine wpHold_done (by kernel_rfl) ?_ _
  have HB5 := hide cc_1
  have HV5 := hide hv5
  have HN5 := hide ((unhide HN).below cc_1)
  have HN25 := hide ((unhide HN2).below cc_1)
  have HC5 : Hid (∀ V, Below w5.heap.size w5 V → (fun w' : World => w'.cell? ⟨b, o + 1, none⟩ = some (.slice a n c) ∧ w'.cell? ⟨b, o + 2 + 1, none⟩ = some (.slice a2 n2 c2)) V) := fun V hV => unhide HCC V (bstep (unhide HB5) hV)
  obtain ⟨d1, d2⟩ := hC_1
  clear cc_1 hb5 bd0 hC0
  obtain ⟨G, hG⟩ : ∃ G, Nat.gcd N1.natAbs D1.natAbs = G := ⟨_, rfl⟩
  rw [hG] at HV5 hv5
  have HGG := hide hG
  have HG0 : Hid (0 < G) := by show _ < _; rw [← hG]; exact Nat.gcd_pos_of_pos_right _ (unhide HDN)
  have HPG : Hid (_ : Prop) := hide ((unhide HDV).down D1.natAbs G (by rw [← hG]; exact Nat.gcd_le_right _ (unhide HDN)) (unhide HPD))
  clear hG
  rcases one_word hv5 with ⟨b5, o5, rfl, rfl, hG1, hc5⟩ | ⟨b5, o5, t5, rfl, rfl, hG1, hc5, ht5⟩ | ⟨ht5, hG1⟩
  ·clear hv5
   have hG2 : G = 1 := by omega
   have hlo := low_one (N := N1) (D := D1.natAbs) (unhide HDN) (by rw [unhide HGG]; exact hG2)
   have HLO := hide hlo
   clear hG1 hG2 hlo
   go_wp2
   go_ret
   exact ⟨rfl, by rw [← unhide HQ]; exact ⟨by rw [(unhide HLO).1]; exact unhide HXX w5 (unhide HB5), by rw [(unhide HLO).2, show ((D1.natAbs : Nat) : Int) = D1 by have := unhide HD0; omega]; exact unhide HYY w5 (unhide HB5)⟩, fun w0 h0 hb => bstep (unhide HFR w0 h0 hb) (unhide HB5)⟩
  ·clear hv5 hG1
   go_wp2_with fail
   refine ((unhide HDV).dv w5 (.slice a n c) (.slice (some ⟨b5, o5, none⟩) 1 c5) N1.natAbs G (unhide HN5) (unhide HV5) (unhide HPN) (unhide HPG) (unhide HG0)).mono ?_
   rintro e w6 ⟨v6, u6, rfl, hv6, hb6⟩
   have l2 := (unhide HYY w5 (unhide HB5)).below hb6
   obtain ⟨a2', n2', c2', l3, _⟩ := l2.ab
   have l4 : w6.cell? ⟨b, o + 2 + 1, none⟩ = some (.slice a2 n2 c2) := (unhide HC5 w6 hb6).2
   have HV6 := hide hv6
   have HB6 := hide (bstep (unhide HB5) hb6)
   have HN26 := hide ((unhide HN25).below hb6)
   have HV56 := hide ((unhide HV5).below hb6)
   clear hv6 hb6 l2 l3 d1 d2
   go_wp2_with fail
   refine ((unhide HDV).dv w6 (.slice a2 n2 c2) (.slice (some ⟨b5, o5, none⟩) 1 c5) D1.natAbs G (unhide HN26) (unhide HV56) (unhide HPD) (unhide HPG) (unhide HG0)).mono ?_
   rintro e w7 ⟨v7, u7, rfl, hv7, hb7⟩
   have HV67 : Hid (HNat w7 v6 _) := (unhide HV6).below hb7
   have HB7 := hide (bstep (unhide HB6) hb7)
   have HV7 := hide hv7
   obtain ⟨a6, n6, c6, rfl, _⟩ := id (unhide HV67)
   obtain ⟨a7, n7, c7, rfl, _⟩ := id (unhide HV7)
   have x7 := unhide HXX w7 (unhide HB7)
   have y7 := unhide HYY w7 (unhide HB7)
   have f1 := x7.fa
   have f2 := y7.fa
   have ⟨k1, k2⟩ := unhide HCC w7 (unhide HB7)
   have k3 : (w7.setCell ⟨b, o + 1, none⟩ (.slice a6 n6 c6)).cell? ⟨b, o + 2 + 1, none⟩ = some (.slice a2 n2 c2) := by
    rw [World.cell?_setCell_other _ _ _ _ (fun e => by injection e with _ e; omega)]; exact k2
   have hlow := low_parts N1 D1.natAbs G (by have := unhide HD0; omega) (unhide HGG)
   have r1 : BInt (w7.setCell ⟨b, o + 1, none⟩ (.slice a6 n6 c6)) b o (mkRat N1 D1.natAbs).num := x7.setAbs hlow.1 (by rw [hlow.2.1]; exact unhide HV67)
   have r2 := (y7.setOff (v := .slice a6 n6 c6) x7.slot (apart02 b o)).setAbs (M := ((mkRat N1 D1.natAbs).den : Int)) (a := a7) (n := n7) (c := c7) ⟨fun h => by omega, fun h => by have := unhide HD0; omega⟩ ((by rw [Int.natAbs_natCast, hlow.2.2]; exact unhide HV7 : HNat w7 (.slice a7 n7 c7) (((mkRat N1 D1.natAbs).den : Int).natAbs : Int)).setAt _ _ x7.slot.nos.2)
   have R1 := hide (r1.setOff (v := .slice a7 n7 c7) (y7.setOff (v := .slice a6 n6 c6) x7.slot (apart02 b o)).slot (apart20 b o))
   have R2 := hide r2
   clear x7 y7 k2 hlow r1 r2 hv7 hb7 l4
   go_wp2
   go_ret
   exact ⟨rfl, by rw [← unhide HQ]; exact ⟨unhide R1, unhide R2⟩, fun w0 h0 hb => ((bstep (unhide HFR w0 h0 hb) (unhide HB7)).setCell (p := ⟨b, o + 1, none⟩) hb _).setCell (p := ⟨b, o + 2 + 1, none⟩) hb _⟩
  ·clear hv5 hG1
   go_wp2_with fail
   refine ((unhide HDV).dv w5 (.slice a n c) (.slice a5 n5 c5) N1.natAbs G (unhide HN5) (unhide HV5) (unhide HPN) (unhide HPG) (unhide HG0)).mono ?_
   rintro e w6 ⟨v6, u6, rfl, hv6, hb6⟩
   have l2 := (unhide HYY w5 (unhide HB5)).below hb6
   obtain ⟨a2', n2', c2', l3, _⟩ := l2.ab
   have l4 : w6.cell? ⟨b, o + 2 + 1, none⟩ = some (.slice a2 n2 c2) := (unhide HC5 w6 hb6).2
   have HV6 := hide hv6
   have HB6 := hide (bstep (unhide HB5) hb6)
   have HN26 := hide ((unhide HN25).below hb6)
   have HV56 := hide ((unhide HV5).below hb6)
   clear hv6 hb6 l2 l3 d1 d2
   go_wp2_with fail
   refine ((unhide HDV).dv w6 (.slice a2 n2 c2) (.slice a5 n5 c5) D1.natAbs G (unhide HN26) (unhide HV56) (unhide HPD) (unhide HPG) (unhide HG0)).mono ?_
   rintro e w7 ⟨v7, u7, rfl, hv7, hb7⟩
   have HV67 : Hid (HNat w7 v6 _) := (unhide HV6).below hb7
   have HB7 := hide (bstep (unhide HB6) hb7)
   have HV7 := hide hv7
   obtain ⟨a6, n6, c6, rfl, _⟩ := id (unhide HV67)
   obtain ⟨a7, n7, c7, rfl, _⟩ := id (unhide HV7)
   have x7 := unhide HXX w7 (unhide HB7)
   have y7 := unhide HYY w7 (unhide HB7)
   have f1 := x7.fa
   have f2 := y7.fa
   have ⟨k1, k2⟩ := unhide HCC w7 (unhide HB7)
   have k3 : (w7.setCell ⟨b, o + 1, none⟩ (.slice a6 n6 c6)).cell? ⟨b, o + 2 + 1, none⟩ = some (.slice a2 n2 c2) := by
    rw [World.cell?_setCell_other _ _ _ _ (fun e => by injection e with _ e; omega)]; exact k2
   have hlow := low_parts N1 D1.natAbs G (by have := unhide HD0; omega) (unhide HGG)
   have r1 : BInt (w7.setCell ⟨b, o + 1, none⟩ (.slice a6 n6 c6)) b o (mkRat N1 D1.natAbs).num := x7.setAbs hlow.1 (by rw [hlow.2.1]; exact unhide HV67)
   have r2 := (y7.setOff (v := .slice a6 n6 c6) x7.slot (apart02 b o)).setAbs (M := ((mkRat N1 D1.natAbs).den : Int)) (a := a7) (n := n7) (c := c7) ⟨fun h => by omega, fun h => by have := unhide HD0; omega⟩ ((by rw [Int.natAbs_natCast, hlow.2.2]; exact unhide HV7 : HNat w7 (.slice a7 n7 c7) (((mkRat N1 D1.natAbs).den : Int).natAbs : Int)).setAt _ _ x7.slot.nos.2)
   have R1 := hide (r1.setOff (v := .slice a7 n7 c7) (y7.setOff (v := .slice a6 n6 c6) x7.slot (apart02 b o)).slot (apart20 b o))
   have R2 := hide r2
   clear x7 y7 k2 hlow r1 r2 hv7 hb7 l4
   go_wp2
   go_ret
   exact ⟨rfl, by rw [← unhide HQ]; exact ⟨unhide R1, unhide R2⟩, fun w0 h0 hb => ((bstep (unhide HFR w0 h0 hb) (unhide HB7)).setCell (p := ⟨b, o + 1, none⟩) hb _).setCell (p := ⟨b, o + 2 + 1, none⟩) hb _⟩

set_option maxHeartbeats 16000000 in
set_option maxRecDepth 100000 in
set_option linter.unusedSimpArgs false in
theorem norm_neg (P : Nat → Prop) (dv : Divs P) (b o : Nat) (N D : Int) (w : World) (x : BInt w b o N) (y : BInt w b (o + 2) D) (pn : P N.natAbs) (pd : P D.natAbs) (hng : D < 0) :
  Calls Tryz.prog 116 #[.pointer (some ⟨b, o, none⟩)] w (MakesAt w b o (Rat.divInt N D)) := by
 have HDV := hide dv
 have HPN := hide pn
 have HPD := hide pd
 clear dv pn pd
 obtain ⟨a9, n9, c9, ea2, hn2⟩ := y.ab
 have hz2 : ((n9 : Int) == 0) = false := len_nz hn2 (by omega)
 have es2 := y.sg
 rw [decide_eq_true hng] at es2
 have HX := hide x
 have HY := hide y
 clear x y hn2
 go_enter Tryz.func116, Tryz.ntmps116
 go_wp2_with fail
 refine wp_region_hold (fun _ : World => True) (by kernel_rfl) ?_
 have bd0 : Below w.heap.size w w.drew := (Below.refl _ _).drew
 have hC0 : (fun _ : World => True) w.drew := trivial
 refine wpHold_take (i := 0) (v := ?_) rfl (by kernel_rfl) (by kernel_rfl) (by kernel_rfl) (fun _ _ _ h => h) (Or.inl ⟨by rfl, ?_⟩) hC0 ?_
 rotate_left
 ·intro w hSw; clear hSw; go_simp; (try with_reducible rfl)
 (try simp only [List.getElem_toArray, List.getElem_cons_succ, List.getElem_cons_zero])
 (try simp only [Act.put, List.setIfInBounds_toArray, List.set_cons_zero, List.set_cons_succ])
 refine wpHold_take (i := 1) (v := ?_) rfl (by kernel_rfl) (by kernel_rfl) (by kernel_rfl) (fun _ _ _ h => h) (Or.inl ⟨by rfl, ?_⟩) hC0 ?_
 rotate_left
 ·intro w hSw; clear hSw; go_simp; (try with_reducible rfl)
 (try simp only [List.getElem_toArray, List.getElem_cons_succ, List.getElem_cons_zero])
 (try simp only [Act.put, List.setIfInBounds_toArray, List.set_cons_zero, List.set_cons_succ])
 refine wpHold_take (i := 2) (v := ?_) rfl (by kernel_rfl) (by kernel_rfl) (by kernel_rfl) (fun _ _ _ h => h) (Or.inl ⟨by rfl, ?_⟩) hC0 ?_
 rotate_left
 ·intro w hSw; clear hSw; go_simp; (try with_reducible rfl)
 (try simp only [List.getElem_toArray, List.getElem_cons_succ, List.getElem_cons_zero])
 (try simp only [Act.put, List.setIfInBounds_toArray, List.set_cons_zero, List.set_cons_succ])
 refine wpHold_take (i := 3) (v := ?_) rfl (by kernel_rfl) (by kernel_rfl) (by kernel_rfl) (fun _ _ _ h => h) (Or.inl ⟨by rfl, ?_⟩) hC0 ?_
 rotate_left
 ·intro w hSw; clear hSw; go_simp; (try with_reducible rfl)
 (try simp only [List.getElem_toArray, List.getElem_cons_succ, List.getElem_cons_zero])
 (try simp only [Act.put, List.setIfInBounds_toArray, List.set_cons_zero, List.set_cons_succ])
 refine wpHold_take (i := 4) (v := ?_) rfl (by kernel_rfl) (by kernel_rfl) (by kernel_rfl) (fun _ _ _ h => h) (Or.inl ⟨by rfl, ?_⟩) hC0 ?_
 rotate_left
 ·intro w hSw; clear hSw; go_simp; (try with_reducible rfl)
 (try simp only [List.getElem_toArray, List.getElem_cons_succ, List.getElem_cons_zero])
 (try simp only [Act.put, List.setIfInBounds_toArray, List.set_cons_zero, List.set_cons_succ])
 refine wpHold_take (i := 5) (v := ?_) rfl (by kernel_rfl) (by kernel_rfl) (by kernel_rfl) (fun _ _ _ h => h) (Or.inl ⟨by rfl, ?_⟩) hC0 ?_
 rotate_left
 ·intro w hSw; clear hSw; go_simp; (try with_reducible rfl)
 (try simp only [List.getElem_toArray, List.getElem_cons_succ, List.getElem_cons_zero])
 (try simp only [Act.put, List.setIfInBounds_toArray, List.set_cons_zero, List.set_cons_succ])
 refine wpHold_one (k := 6) (by kernel_rfl) rfl (fun K hK => ?_)
 (try simp only [List.getElem_toArray, List.getElem_cons_succ, List.getElem_cons_zero])
 go_simp
 refine (ineg_any b (o) b (o) N w.drew ((unhide HX).below bd0).slot ((unhide HX).below bd0) ((unhide HDV).sm _ (unhide HPN))).mono ?_
 intro e w1 hG
 have HX1 := hide (hG.int ((unhide HX).below bd0).slot)
 have HY1 := hide (hG.other ((unhide HX).below bd0).slot ((unhide HY).below bd0) (apart02 b o))
 have HFRw1 : Hid (∀ w0 : World, Below w0.heap.size w0 w → w0.heap.size ≤ b → Below w0.heap.size w0 w1) := fun w0 h0 hb => hG.bl (bstep (h0) bd0) hb
 obtain ⟨rfl, _⟩ := hG
 have hC1 : (fun _ : World => True) w1 := trivial
 refine hK.out _ _ hC1 ?_
 clear hK K
 (try simp only [Act.put, List.setIfInBounds_toArray, List.set_cons_zero, List.set_cons_succ])
 refine wpHold_done (by kernel_rfl) ?_ _
 clear bd0 hC0 hC1 HX HY
 go_wp2_with fail
 refine wp_region_hold (fun _ : World => True) (by kernel_rfl) ?_
 have bd0 : Below w1.heap.size w1 w1.drew := (Below.refl _ _).drew
 have hC0 : (fun _ : World => True) w1.drew := trivial
 refine wpHold_take (i := 0) (v := ?_) rfl (by kernel_rfl) (by kernel_rfl) (by kernel_rfl) (fun _ _ _ h => h) (Or.inl ⟨by rfl, ?_⟩) hC0 ?_
 rotate_left
 ·intro w hSw; clear hSw; go_simp; (try with_reducible rfl)
 (try simp only [List.getElem_toArray, List.getElem_cons_succ, List.getElem_cons_zero])
 (try simp only [Act.put, List.setIfInBounds_toArray, List.set_cons_zero, List.set_cons_succ])
 refine wpHold_take (i := 1) (v := ?_) rfl (by kernel_rfl) (by kernel_rfl) (by kernel_rfl) (fun _ _ _ h => h) (Or.inl ⟨by rfl, ?_⟩) hC0 ?_
 rotate_left
 ·intro w hSw; clear hSw; go_simp; (try with_reducible rfl)
 (try simp only [List.getElem_toArray, List.getElem_cons_succ, List.getElem_cons_zero])
 (try simp only [Act.put, List.setIfInBounds_toArray, List.set_cons_zero, List.set_cons_succ])
 refine wpHold_take (i := 2) (v := ?_) rfl (by kernel_rfl) (by kernel_rfl) (by kernel_rfl) (fun _ _ _ h => h) (Or.inl ⟨by rfl, ?_⟩) hC0 ?_
 rotate_left
 ·intro w hSw; clear hSw; go_simp; (try with_reducible rfl)
 (try simp only [List.getElem_toArray, List.getElem_cons_succ, List.getElem_cons_zero])
 (try simp only [Act.put, List.setIfInBounds_toArray, List.set_cons_zero, List.set_cons_succ])
 refine wpHold_take (i := 3) (v := ?_) rfl (by kernel_rfl) (by kernel_rfl) (by kernel_rfl) (fun _ _ _ h => h) (Or.inl ⟨by rfl, ?_⟩) hC0 ?_
 rotate_left
 ·intro w hSw; clear hSw; go_simp; (try with_reducible rfl)
 (try simp only [List.getElem_toArray, List.getElem_cons_succ, List.getElem_cons_zero])
 (try simp only [Act.put, List.setIfInBounds_toArray, List.set_cons_zero, List.set_cons_succ])
 refine wpHold_take (i := 4) (v := ?_) rfl (by kernel_rfl) (by kernel_rfl) (by kernel_rfl) (fun _ _ _ h => h) (Or.inl ⟨by rfl, ?_⟩) hC0 ?_
 rotate_left
 ·intro w hSw; clear hSw; go_simp; (try with_reducible rfl)
 (try simp only [List.getElem_toArray, List.getElem_cons_succ, List.getElem_cons_zero])
 (try simp only [Act.put, List.setIfInBounds_toArray, List.set_cons_zero, List.set_cons_succ])
 refine wpHold_take (i := 5) (v := ?_) rfl (by kernel_rfl) (by kernel_rfl) (by kernel_rfl) (fun _ _ _ h => h) (Or.inl ⟨by rfl, ?_⟩) hC0 ?_
 rotate_left
 ·intro w hSw; clear hSw; go_simp; (try with_reducible rfl)
 (try simp only [List.getElem_toArray, List.getElem_cons_succ, List.getElem_cons_zero])
 (try simp only [Act.put, List.setIfInBounds_toArray, List.set_cons_zero, List.set_cons_succ])
 refine wpHold_one (k := 6) (by kernel_rfl) rfl (fun K hK => ?_)
 (try simp only [List.getElem_toArray, List.getElem_cons_succ, List.getElem_cons_zero])
 go_simp
 refine (ineg_any b (o + 2) b (o + 2) D w1.drew ((unhide HY1).below bd0).slot ((unhide HY1).below bd0) ((unhide HDV).sm _ (unhide HPD))).mono ?_
 intro e w2 hG
 have HY11 := hide (hG.int ((unhide HY1).below bd0).slot)
 have HX11 := hide (hG.other ((unhide HY1).below bd0).slot ((unhide HX1).below bd0) (apart20 b o))
 have HFRw2 : Hid (∀ w0 : World, Below w0.heap.size w0 w → w0.heap.size ≤ b → Below w0.heap.size w0 w2) := fun w0 h0 hb => hG.bl (bstep (unhide HFRw1 w0 h0 hb) bd0) hb
 obtain ⟨rfl, _⟩ := hG
 have hC1 : (fun _ : World => True) w2 := trivial
 refine hK.out _ _ hC1 ?_
 clear hK K
 (try simp only [Act.put, List.setIfInBounds_toArray, List.set_cons_zero, List.set_cons_succ])
 refine wpHold_done (by kernel_rfl) ?_ _
 clear bd0 hC0 hC1 HY1 HX1
 obtain ⟨N1, hN1⟩ : ∃ N1, -N = N1 := ⟨_, rfl⟩
 obtain ⟨D1, hD1⟩ : ∃ D1, -D = D1 := ⟨_, rfl⟩
 have HD0 : Hid (0 < D1) := by show _ < _; omega
 have HQ : Hid (mkRat N1 D1.natAbs = Rat.divInt N D) := by show _ = _; rw [← hN1, ← hD1]; exact div_neg hng
 have x := unhide HX11
 have y := unhide HY11
 rw [hN1] at x
 rw [hD1] at y
 have HPN' := hide (unhide HPN)
 rw [show N.natAbs = N1.natAbs by omega] at HPN
 rw [show D.natAbs = D1.natAbs by omega] at HPD
 have HFR := hide (unhide HFRw2)
 clear HX11 HY11 HFRw1 HFRw2 hN1 hD1 hng ea2 hz2 es2 HPN'
 have HXX : Hid (∀ V, Below w2.heap.size w2 V → BInt V b o N1) := fun V hV => x.below hV
 have HYY : Hid (∀ V, Below w2.heap.size w2 V → BInt V b (o + 2) D1) := fun V hV => y.below hV
 have HDN : Hid (0 < D1.natAbs) := by show _ < _; have := unhide HD0; omega
 obtain ⟨a, n, c, ea, hn⟩ := x.ab
 obtain ⟨a2, n2, c2, ea2, hn2⟩ := y.ab
 have HCC : Hid (∀ V, Below w2.heap.size w2 V → (fun w' : World => w'.cell? ⟨b, o + 1, none⟩ = some (.slice a n c) ∧ w'.cell? ⟨b, o + 2 + 1, none⟩ = some (.slice a2 n2 c2)) V) := fun V hV => ⟨by rw [hV.cell (p := ⟨b, o + 1, none⟩) x.lt]; exact ea, by rw [hV.cell (p := ⟨b, o + 2 + 1, none⟩) y.lt]; exact ea2⟩
 have hz2 : ((n2 : Int) == 0) = false := len_nz hn2 (by have := unhide HD0; omega)
 have es2 := y.sg
 rw [decide_eq_false (show ¬ D1 < 0 by have := unhide HD0; omega)] at es2
 have HN := hide hn
 have HN2 := hide hn2
 have HK := hide y.slot
 clear x y
 by_cases hN0 : N1 = 0
 ·have hn0 : n = 0 := len_z (w := w2) (a := a) (c := c) (by rw [hN0] at hn; exact hn)
  subst hn0
  have HNN := hide hN0
  clear hn hn2 hN0
  (try simp only [Exit.inBlock, Exit.then])
  go_wp2_with fail
  refine (setInt64_any b (o + 2) 1 (by decide) (by decide) w2 (unhide HK)).mono ?_
  intro e w3 hG
  have R1 := hide (hG.other (unhide HK) (unhide HXX w2 (Below.refl _ _)) (apart20 b o))
  have R2 := hide (hG.int (unhide HK))
  have R3 : Hid (∀ w0 : World, Below w0.heap.size w0 w → w0.heap.size ≤ b → Below w0.heap.size w0 w3) := fun w0 h0 hb => hG.bl (unhide HFR w0 h0 hb) hb
  obtain ⟨rfl, _⟩ := hG
  have hlo := low_zero (D := D1.natAbs) (unhide HDN)
  have HLO := hide hlo
  clear hlo
  go_wp2
  go_ret
  exact ⟨rfl, by rw [← unhide HQ]; have h1 := unhide R1; rw [unhide HNN] at h1 ⊢; exact ⟨by rw [(unhide HLO).1]; exact h1, by rw [(unhide HLO).2]; exact unhide R2⟩, unhide R3⟩
 have hz1 : ((n : Int) == 0) = false := len_nz hn (by omega)
 clear hN0 hn
 rcases one_word hn2 with ⟨b4, o4, rfl, rfl, hD1, hc4⟩ | ⟨b4, o4, t4, rfl, rfl, hD1, hc4, ht4⟩ | ⟨ht4, hD1⟩
 ·clear hn2
  have hlo := low_one (N := N1) (D := D1.natAbs) (unhide HDN) (by rw [show D1.natAbs = 1 by omega, Nat.gcd_one_right])
  have HLO := hide hlo
  clear hlo hD1
  (try simp only [Exit.inBlock, Exit.then])
  go_wp2
  go_ret
  exact ⟨rfl, by rw [← unhide HQ]; exact ⟨by rw [(unhide HLO).1]; exact unhide HXX w2 (Below.refl _ _), by rw [(unhide HLO).2, show ((D1.natAbs : Nat) : Int) = D1 by have := unhide HD0; omega]; exact unhide HYY w2 (Below.refl _ _)⟩, unhide HFR⟩
 ·clear hn2 hD1
  (try simp only [Exit.inBlock, Exit.then])
  go_wp2_with fail
  refine wp_region_hold (fun w' : World => w'.cell? ⟨b, o + 1, none⟩ = some (.slice a n c) ∧ w'.cell? ⟨b, o + 2 + 1, none⟩ = some (.slice (some ⟨b4, o4, none⟩) 1 c2)) (by kernel_rfl) ?_
  have bd0 : Below w2.heap.size w2 w2.drew := (Below.refl _ _).drew
  have hC0 : (fun w' : World => w'.cell? ⟨b, o + 1, none⟩ = some (.slice a n c) ∧ w'.cell? ⟨b, o + 2 + 1, none⟩ = some (.slice (some ⟨b4, o4, none⟩) 1 c2)) w2.drew := unhide HCC _ bd0
  refine wpHold_take (i := 0) (v := ?_) rfl (by kernel_rfl) (by kernel_rfl) (by kernel_rfl) (fun _ _ _ h => h) (Or.inl ⟨by rfl, ?_⟩) hC0 ?_
  rotate_left
  ·intro w hSw; clear hSw; go_simp; (try with_reducible rfl)
  (try simp only [List.getElem_toArray, List.getElem_cons_succ, List.getElem_cons_zero])
  (try simp only [Act.put, List.setIfInBounds_toArray, List.set_cons_zero, List.set_cons_succ])
  refine wpHold_take (i := 1) (v := ?_) rfl (by kernel_rfl) (by kernel_rfl) (by kernel_rfl) (fun _ _ _ h => h) (Or.inl ⟨by rfl, ?_⟩) hC0 ?_
  rotate_left
  ·intro w hSw; clear hSw; go_simp; (try with_reducible rfl)
  (try simp only [List.getElem_toArray, List.getElem_cons_succ, List.getElem_cons_zero])
  (try simp only [Act.put, List.setIfInBounds_toArray, List.set_cons_zero, List.set_cons_succ])
  refine wpHold_take (i := 2) (v := ?_) rfl (by kernel_rfl) (by kernel_rfl) (by kernel_rfl) (fun _ _ _ h => h) (Or.inl ⟨by rfl, ?_⟩) hC0 ?_
  rotate_left
  ·intro w hSw; clear hSw; go_simp; (try with_reducible rfl)
  (try simp only [List.getElem_toArray, List.getElem_cons_succ, List.getElem_cons_zero])
  (try simp only [Act.put, List.setIfInBounds_toArray, List.set_cons_zero, List.set_cons_succ])
  refine wpHold_take (i := 3) (v := ?_) rfl (by kernel_rfl) (by kernel_rfl) (by kernel_rfl) (fun _ _ _ h => h) (Or.inl ⟨by rfl, ?_⟩) hC0 ?_
  rotate_left
  ·intro w hSw; clear hSw; go_simp; (try with_reducible rfl)
  (try simp only [List.getElem_toArray, List.getElem_cons_succ, List.getElem_cons_zero])
  (try simp only [Act.put, List.setIfInBounds_toArray, List.set_cons_zero, List.set_cons_succ])
  refine wpHold_take (i := 4) (v := ?_) rfl (by kernel_rfl) (by kernel_rfl) (by kernel_rfl) (fun _ _ _ h => h) (Or.inl ⟨by rfl, ?_⟩) hC0 ?_
  rotate_left
  ·intro w hSw; (try dsimp only at hSw); obtain ⟨z0, z1⟩ := hSw; go_simp; (try with_reducible rfl)
  (try simp only [List.getElem_toArray, List.getElem_cons_succ, List.getElem_cons_zero])
  (try simp only [Act.put, List.setIfInBounds_toArray, List.set_cons_zero, List.set_cons_succ])
  refine wpHold_take (i := 5) (v := ?_) rfl (by kernel_rfl) (by kernel_rfl) (by kernel_rfl) (fun _ _ _ h => h) (Or.inl ⟨by rfl, ?_⟩) hC0 ?_
  rotate_left
  ·intro w hSw; clear hSw; go_simp; (try with_reducible rfl)
  (try simp only [List.getElem_toArray, List.getElem_cons_succ, List.getElem_cons_zero])
  (try simp only [Act.put, List.setIfInBounds_toArray, List.set_cons_zero, List.set_cons_succ])
  refine wpHold_take (i := 6) (v := ?_) rfl (by kernel_rfl) (by kernel_rfl) (by kernel_rfl) (fun _ _ _ h => h) (Or.inl ⟨by rfl, ?_⟩) hC0 ?_
  rotate_left
  ·intro w hSw; clear hSw; go_simp; (try with_reducible rfl)
  (try simp only [List.getElem_toArray, List.getElem_cons_succ, List.getElem_cons_zero])
  (try simp only [Act.put, List.setIfInBounds_toArray, List.set_cons_zero, List.set_cons_succ])
  refine wpHold_take (i := 7) (v := ?_) rfl (by kernel_rfl) (by kernel_rfl) (by kernel_rfl) (fun _ _ _ h => h) (Or.inl ⟨by rfl, ?_⟩) hC0 ?_
  rotate_left
  ·intro w hSw; clear hSw; go_simp; (try with_reducible rfl)
  (try simp only [List.getElem_toArray, List.getElem_cons_succ, List.getElem_cons_zero])
  (try simp only [Act.put, List.setIfInBounds_toArray, List.set_cons_zero, List.set_cons_succ])
  refine wpHold_take (i := 8) (v := ?_) rfl (by kernel_rfl) (by kernel_rfl) (by kernel_rfl) (fun _ _ _ h => h) (Or.inl ⟨by rfl, ?_⟩) hC0 ?_
  rotate_left
  ·intro w hSw; clear hSw; go_simp; (try with_reducible rfl)
  (try simp only [List.getElem_toArray, List.getElem_cons_succ, List.getElem_cons_zero])
  (try simp only [Act.put, List.setIfInBounds_toArray, List.set_cons_zero, List.set_cons_succ])
  refine wpHold_take (i := 9) (v := ?_) rfl (by kernel_rfl) (by kernel_rfl) (by kernel_rfl) (fun _ _ _ h => h) (Or.inl ⟨by rfl, ?_⟩) hC0 ?_
  rotate_left
  ·intro w hSw; (try dsimp only at hSw); obtain ⟨z0, z1⟩ := hSw; go_simp; (try with_reducible rfl)
  (try simp only [List.getElem_toArray, List.getElem_cons_succ, List.getElem_cons_zero])
  (try simp only [Act.put, List.setIfInBounds_toArray, List.set_cons_zero, List.set_cons_succ])
  refine wpHold_one (k := 10) (by kernel_rfl) rfl (fun K hK => ?_)
  (try simp only [List.getElem_toArray, List.getElem_cons_succ, List.getElem_cons_zero])
  go_simp
  refine ((unhide HDV).cm _ _ _ N1.natAbs D1.natAbs ((unhide HN).below bd0) ((unhide HN2).below bd0) (unhide HPN) (unhide HPD) (unhide HDN)).mono ?_
  rintro e w5 ⟨v5, rfl, hv5, hb5⟩
  obtain ⟨a5, n5, c5, rfl, _⟩ := id hv5
  have cc_1 := bstep bd0 hb5
  have hC_1 : (fun w' : World => w'.cell? ⟨b, o + 1, none⟩ = some (.slice a n c) ∧ w'.cell? ⟨b, o + 2 + 1, none⟩ = some (.slice (some ⟨b4, o4, none⟩) 1 c2)) w5 := unhide HCC _ cc_1
  refine hK.out _ _ hC_1 ?_
  clear hK K
  (try simp only [Act.put, List.setIfInBounds_toArray, List.set_cons_zero, List.set_cons_succ])
  refine wpHold_one (k := 11) (by kernel_rfl) rfl (fun K hK => ?_)
  (try simp only [List.getElem_toArray, List.getElem_cons_succ, List.getElem_cons_zero])
  go_simp
  refine hK.out _ _ hC_1 ?_
  clear hK K
  (try simp only [Act.put, List.setIfInBounds_toArray, List.set_cons_zero, List.set_cons_succ])
  refine wpHold_done (by kernel_rfl) ?_ _
  have HB5 := hide cc_1
  have HV5 := hide hv5
  have HN5 := hide ((unhide HN).below cc_1)
  have HN25 := hide ((unhide HN2).below cc_1)
  have HC5 : Hid (∀ V, Below w5.heap.size w5 V → (fun w' : World => w'.cell? ⟨b, o + 1, none⟩ = some (.slice a n c) ∧ w'.cell? ⟨b, o + 2 + 1, none⟩ = some (.slice (some ⟨b4, o4, none⟩) 1 c2)) V) := fun V hV => unhide HCC V (bstep (unhide HB5) hV)
  obtain ⟨d1, d2⟩ := hC_1
  clear cc_1 hb5 bd0 hC0
  obtain ⟨G, hG⟩ : ∃ G, Nat.gcd N1.natAbs D1.natAbs = G := ⟨_, rfl⟩
  rw [hG] at HV5 hv5
  have HGG := hide hG
  have HG0 : Hid (0 < G) := by show _ < _; rw [← hG]; exact Nat.gcd_pos_of_pos_right _ (unhide HDN)
  have HPG : Hid (_ : Prop) := hide ((unhide HDV).down D1.natAbs G (by rw [← hG]; exact Nat.gcd_le_right _ (unhide HDN)) (unhide HPD))
  clear hG
  rcases one_word hv5 with ⟨b5, o5, rfl, rfl, hG1, hc5⟩ | ⟨b5, o5, t5, rfl, rfl, hG1, hc5, ht5⟩ | ⟨ht5, hG1⟩
  ·clear hv5
   have hG2 : G = 1 := by omega
   have hlo := low_one (N := N1) (D := D1.natAbs) (unhide HDN) (by rw [unhide HGG]; exact hG2)
   have HLO := hide hlo
   clear hG1 hG2 hlo
   go_wp2
   go_ret
   exact ⟨rfl, by rw [← unhide HQ]; exact ⟨by rw [(unhide HLO).1]; exact unhide HXX w5 (unhide HB5), by rw [(unhide HLO).2, show ((D1.natAbs : Nat) : Int) = D1 by have := unhide HD0; omega]; exact unhide HYY w5 (unhide HB5)⟩, fun w0 h0 hb => bstep (unhide HFR w0 h0 hb) (unhide HB5)⟩
  ·clear hv5 hG1
   go_wp2_with fail
   refine ((unhide HDV).dv w5 (.slice a n c) (.slice (some ⟨b5, o5, none⟩) 1 c5) N1.natAbs G (unhide HN5) (unhide HV5) (unhide HPN) (unhide HPG) (unhide HG0)).mono ?_
   rintro e w6 ⟨v6, u6, rfl, hv6, hb6⟩
   have l2 := (unhide HYY w5 (unhide HB5)).below hb6
   obtain ⟨a2', n2', c2', l3, _⟩ := l2.ab
   have l4 : w6.cell? ⟨b, o + 2 + 1, none⟩ = some (.slice (some ⟨b4, o4, none⟩) 1 c2) := (unhide HC5 w6 hb6).2
   have HV6 := hide hv6
   have HB6 := hide (bstep (unhide HB5) hb6)
   have HN26 := hide ((unhide HN25).below hb6)
   have HV56 := hide ((unhide HV5).below hb6)
   clear hv6 hb6 l2 l3 d1 d2
   go_wp2_with fail
   refine ((unhide HDV).dv w6 (.slice (some ⟨b4, o4, none⟩) 1 c2) (.slice (some ⟨b5, o5, none⟩) 1 c5) D1.natAbs G (unhide HN26) (unhide HV56) (unhide HPD) (unhide HPG) (unhide HG0)).mono ?_
   rintro e w7 ⟨v7, u7, rfl, hv7, hb7⟩
   have HV67 : Hid (HNat w7 v6 _) := (unhide HV6).below hb7
   have HB7 := hide (bstep (unhide HB6) hb7)
   have HV7 := hide hv7
   obtain ⟨a6, n6, c6, rfl, _⟩ := id (unhide HV67)
   obtain ⟨a7, n7, c7, rfl, _⟩ := id (unhide HV7)
   have x7 := unhide HXX w7 (unhide HB7)
   have y7 := unhide HYY w7 (unhide HB7)
   have f1 := x7.fa
   have f2 := y7.fa
   have ⟨k1, k2⟩ := unhide HCC w7 (unhide HB7)
   have k3 : (w7.setCell ⟨b, o + 1, none⟩ (.slice a6 n6 c6)).cell? ⟨b, o + 2 + 1, none⟩ = some (.slice (some ⟨b4, o4, none⟩) 1 c2) := by
    rw [World.cell?_setCell_other _ _ _ _ (fun e => by injection e with _ e; omega)]; exact k2
   have hlow := low_parts N1 D1.natAbs G (by have := unhide HD0; omega) (unhide HGG)
   have r1 : BInt (w7.setCell ⟨b, o + 1, none⟩ (.slice a6 n6 c6)) b o (mkRat N1 D1.natAbs).num := x7.setAbs hlow.1 (by rw [hlow.2.1]; exact unhide HV67)
   have r2 := (y7.setOff (v := .slice a6 n6 c6) x7.slot (apart02 b o)).setAbs (M := ((mkRat N1 D1.natAbs).den : Int)) (a := a7) (n := n7) (c := c7) ⟨fun h => by omega, fun h => by have := unhide HD0; omega⟩ ((by rw [Int.natAbs_natCast, hlow.2.2]; exact unhide HV7 : HNat w7 (.slice a7 n7 c7) (((mkRat N1 D1.natAbs).den : Int).natAbs : Int)).setAt _ _ x7.slot.nos.2)
   have R1 := hide (r1.setOff (v := .slice a7 n7 c7) (y7.setOff (v := .slice a6 n6 c6) x7.slot (apart02 b o)).slot (apart20 b o))
   have R2 := hide r2
   clear x7 y7 k2 hlow r1 r2 hv7 hb7 l4
   go_wp2
   go_ret
   exact ⟨rfl, by rw [← unhide HQ]; exact ⟨unhide R1, unhide R2⟩, fun w0 h0 hb => ((bstep (unhide HFR w0 h0 hb) (unhide HB7)).setCell (p := ⟨b, o + 1, none⟩) hb _).setCell (p := ⟨b, o + 2 + 1, none⟩) hb _⟩
  ·clear hv5 hG1
   go_wp2_with fail
   refine ((unhide HDV).dv w5 (.slice a n c) (.slice a5 n5 c5) N1.natAbs G (unhide HN5) (unhide HV5) (unhide HPN) (unhide HPG) (unhide HG0)).mono ?_
   rintro e w6 ⟨v6, u6, rfl, hv6, hb6⟩
   have l2 := (unhide HYY w5 (unhide HB5)).below hb6
   obtain ⟨a2', n2', c2', l3, _⟩ := l2.ab
   have l4 : w6.cell? ⟨b, o + 2 + 1, none⟩ = some (.slice (some ⟨b4, o4, none⟩) 1 c2) := (unhide HC5 w6 hb6).2
   have HV6 := hide hv6
   have HB6 := hide (bstep (unhide HB5) hb6)
   have HN26 := hide ((unhide HN25).below hb6)
   have HV56 := hide ((unhide HV5).below hb6)
   clear hv6 hb6 l2 l3 d1 d2
   go_wp2_with fail
   refine ((unhide HDV).dv w6 (.slice (some ⟨b4, o4, none⟩) 1 c2) (.slice a5 n5 c5) D1.natAbs G (unhide HN26) (unhide HV56) (unhide HPD) (unhide HPG) (unhide HG0)).mono ?_
   rintro e w7 ⟨v7, u7, rfl, hv7, hb7⟩
   have HV67 : Hid (HNat w7 v6 _) := (unhide HV6).below hb7
   have HB7 := hide (bstep (unhide HB6) hb7)
   have HV7 := hide hv7
   obtain ⟨a6, n6, c6, rfl, _⟩ := id (unhide HV67)
   obtain ⟨a7, n7, c7, rfl, _⟩ := id (unhide HV7)
   have x7 := unhide HXX w7 (unhide HB7)
   have y7 := unhide HYY w7 (unhide HB7)
   have f1 := x7.fa
   have f2 := y7.fa
   have ⟨k1, k2⟩ := unhide HCC w7 (unhide HB7)
   have k3 : (w7.setCell ⟨b, o + 1, none⟩ (.slice a6 n6 c6)).cell? ⟨b, o + 2 + 1, none⟩ = some (.slice (some ⟨b4, o4, none⟩) 1 c2) := by
    rw [World.cell?_setCell_other _ _ _ _ (fun e => by injection e with _ e; omega)]; exact k2
   have hlow := low_parts N1 D1.natAbs G (by have := unhide HD0; omega) (unhide HGG)
   have r1 : BInt (w7.setCell ⟨b, o + 1, none⟩ (.slice a6 n6 c6)) b o (mkRat N1 D1.natAbs).num := x7.setAbs hlow.1 (by rw [hlow.2.1]; exact unhide HV67)
   have r2 := (y7.setOff (v := .slice a6 n6 c6) x7.slot (apart02 b o)).setAbs (M := ((mkRat N1 D1.natAbs).den : Int)) (a := a7) (n := n7) (c := c7) ⟨fun h => by omega, fun h => by have := unhide HD0; omega⟩ ((by rw [Int.natAbs_natCast, hlow.2.2]; exact unhide HV7 : HNat w7 (.slice a7 n7 c7) (((mkRat N1 D1.natAbs).den : Int).natAbs : Int)).setAt _ _ x7.slot.nos.2)
   have R1 := hide (r1.setOff (v := .slice a7 n7 c7) (y7.setOff (v := .slice a6 n6 c6) x7.slot (apart02 b o)).slot (apart20 b o))
   have R2 := hide r2
   clear x7 y7 k2 hlow r1 r2 hv7 hb7 l4
   go_wp2
   go_ret
   exact ⟨rfl, by rw [← unhide HQ]; exact ⟨unhide R1, unhide R2⟩, fun w0 h0 hb => ((bstep (unhide HFR w0 h0 hb) (unhide HB7)).setCell (p := ⟨b, o + 1, none⟩) hb _).setCell (p := ⟨b, o + 2 + 1, none⟩) hb _⟩
 ·clear hn2 hD1
  (try simp only [Exit.inBlock, Exit.then])
  go_wp2_with fail
  refine wp_region_hold (fun w' : World => w'.cell? ⟨b, o + 1, none⟩ = some (.slice a n c) ∧ w'.cell? ⟨b, o + 2 + 1, none⟩ = some (.slice a2 n2 c2)) (by kernel_rfl) ?_
  have bd0 : Below w2.heap.size w2 w2.drew := (Below.refl _ _).drew
  have hC0 : (fun w' : World => w'.cell? ⟨b, o + 1, none⟩ = some (.slice a n c) ∧ w'.cell? ⟨b, o + 2 + 1, none⟩ = some (.slice a2 n2 c2)) w2.drew := unhide HCC _ bd0
  refine wpHold_take (i := 0) (v := ?_) rfl (by kernel_rfl) (by kernel_rfl) (by kernel_rfl) (fun _ _ _ h => h) (Or.inl ⟨by rfl, ?_⟩) hC0 ?_
  rotate_left
  ·intro w hSw; clear hSw; go_simp; (try with_reducible rfl)
  (try simp only [List.getElem_toArray, List.getElem_cons_succ, List.getElem_cons_zero])
  (try simp only [Act.put, List.setIfInBounds_toArray, List.set_cons_zero, List.set_cons_succ])
  refine wpHold_take (i := 1) (v := ?_) rfl (by kernel_rfl) (by kernel_rfl) (by kernel_rfl) (fun _ _ _ h => h) (Or.inl ⟨by rfl, ?_⟩) hC0 ?_
  rotate_left
  ·intro w hSw; clear hSw; go_simp; (try with_reducible rfl)
  (try simp only [List.getElem_toArray, List.getElem_cons_succ, List.getElem_cons_zero])
  (try simp only [Act.put, List.setIfInBounds_toArray, List.set_cons_zero, List.set_cons_succ])
  refine wpHold_take (i := 2) (v := ?_) rfl (by kernel_rfl) (by kernel_rfl) (by kernel_rfl) (fun _ _ _ h => h) (Or.inl ⟨by rfl, ?_⟩) hC0 ?_
  rotate_left
  ·intro w hSw; clear hSw; go_simp; (try with_reducible rfl)
  (try simp only [List.getElem_toArray, List.getElem_cons_succ, List.getElem_cons_zero])
  (try simp only [Act.put, List.setIfInBounds_toArray, List.set_cons_zero, List.set_cons_succ])
  refine wpHold_take (i := 3) (v := ?_) rfl (by kernel_rfl) (by kernel_rfl) (by kernel_rfl) (fun _ _ _ h => h) (Or.inl ⟨by rfl, ?_⟩) hC0 ?_
  rotate_left
  ·intro w hSw; clear hSw; go_simp; (try with_reducible rfl)
  (try simp only [List.getElem_toArray, List.getElem_cons_succ, List.getElem_cons_zero])
  (try simp only [Act.put, List.setIfInBounds_toArray, List.set_cons_zero, List.set_cons_succ])
  refine wpHold_take (i := 4) (v := ?_) rfl (by kernel_rfl) (by kernel_rfl) (by kernel_rfl) (fun _ _ _ h => h) (Or.inl ⟨by rfl, ?_⟩) hC0 ?_
  rotate_left
  ·intro w hSw; (try dsimp only at hSw); obtain ⟨z0, z1⟩ := hSw; go_simp; (try with_reducible rfl)
  (try simp only [List.getElem_toArray, List.getElem_cons_succ, List.getElem_cons_zero])
  (try simp only [Act.put, List.setIfInBounds_toArray, List.set_cons_zero, List.set_cons_succ])
  refine wpHold_take (i := 5) (v := ?_) rfl (by kernel_rfl) (by kernel_rfl) (by kernel_rfl) (fun _ _ _ h => h) (Or.inl ⟨by rfl, ?_⟩) hC0 ?_
  rotate_left
  ·intro w hSw; clear hSw; go_simp; (try with_reducible rfl)
  (try simp only [List.getElem_toArray, List.getElem_cons_succ, List.getElem_cons_zero])
  (try simp only [Act.put, List.setIfInBounds_toArray, List.set_cons_zero, List.set_cons_succ])
  refine wpHold_take (i := 6) (v := ?_) rfl (by kernel_rfl) (by kernel_rfl) (by kernel_rfl) (fun _ _ _ h => h) (Or.inl ⟨by rfl, ?_⟩) hC0 ?_
  rotate_left
  ·intro w hSw; clear hSw; go_simp; (try with_reducible rfl)
  (try simp only [List.getElem_toArray, List.getElem_cons_succ, List.getElem_cons_zero])
  (try simp only [Act.put, List.setIfInBounds_toArray, List.set_cons_zero, List.set_cons_succ])
  refine wpHold_take (i := 7) (v := ?_) rfl (by kernel_rfl) (by kernel_rfl) (by kernel_rfl) (fun _ _ _ h => h) (Or.inl ⟨by rfl, ?_⟩) hC0 ?_
  rotate_left
  ·intro w hSw; clear hSw; go_simp; (try with_reducible rfl)
  (try simp only [List.getElem_toArray, List.getElem_cons_succ, List.getElem_cons_zero])
  (try simp only [Act.put, List.setIfInBounds_toArray, List.set_cons_zero, List.set_cons_succ])
  refine wpHold_take (i := 8) (v := ?_) rfl (by kernel_rfl) (by kernel_rfl) (by kernel_rfl) (fun _ _ _ h => h) (Or.inl ⟨by rfl, ?_⟩) hC0 ?_
  rotate_left
  ·intro w hSw; clear hSw; go_simp; (try with_reducible rfl)
  (try simp only [List.getElem_toArray, List.getElem_cons_succ, List.getElem_cons_zero])
  (try simp only [Act.put, List.setIfInBounds_toArray, List.set_cons_zero, List.set_cons_succ])
  refine wpHold_take (i := 9) (v := ?_) rfl (by kernel_rfl) (by kernel_rfl) (by kernel_rfl) (fun _ _ _ h => h) (Or.inl ⟨by rfl, ?_⟩) hC0 ?_
  rotate_left
  ·intro w hSw; (try dsimp only at hSw); obtain ⟨z0, z1⟩ := hSw; go_simp; (try with_reducible rfl)
  (try simp only [List.getElem_toArray, List.getElem_cons_succ, List.getElem_cons_zero])
  (try simp only [Act.put, List.setIfInBounds_toArray, List.set_cons_zero, List.set_cons_succ])
  refine wpHold_one (k := 10) (by kernel_rfl) rfl (fun K hK => ?_)
  (try simp only [List.getElem_toArray, List.getElem_cons_succ, List.getElem_cons_zero])
  go_simp
  refine ((unhide HDV).cm _ _ _ N1.natAbs D1.natAbs ((unhide HN).below bd0) ((unhide HN2).below bd0) (unhide HPN) (unhide HPD) (unhide HDN)).mono ?_
  rintro e w5 ⟨v5, rfl, hv5, hb5⟩
  obtain ⟨a5, n5, c5, rfl, _⟩ := id hv5
  have cc_1 := bstep bd0 hb5
  have hC_1 : (fun w' : World => w'.cell? ⟨b, o + 1, none⟩ = some (.slice a n c) ∧ w'.cell? ⟨b, o + 2 + 1, none⟩ = some (.slice a2 n2 c2)) w5 := unhide HCC _ cc_1
  refine hK.out _ _ hC_1 ?_
  clear hK K
  (try simp only [Act.put, List.setIfInBounds_toArray, List.set_cons_zero, List.set_cons_succ])
  refine wpHold_one (k := 11) (by kernel_rfl) rfl (fun K hK => ?_)
  (try simp only [List.getElem_toArray, List.getElem_cons_succ, List.getElem_cons_zero])
  go_simp
  refine hK.out _ _ hC_1 ?_
  clear hK K
  (try simp only [Act.put, List.setIfInBounds_toArray, List.set_cons_zero, List.set_cons_succ])
  refine wpHold_done (by kernel_rfl) ?_ _
  have HB5 := hide cc_1
  have HV5 := hide hv5
  have HN5 := hide ((unhide HN).below cc_1)
  have HN25 := hide ((unhide HN2).below cc_1)
  have HC5 : Hid (∀ V, Below w5.heap.size w5 V → (fun w' : World => w'.cell? ⟨b, o + 1, none⟩ = some (.slice a n c) ∧ w'.cell? ⟨b, o + 2 + 1, none⟩ = some (.slice a2 n2 c2)) V) := fun V hV => unhide HCC V (bstep (unhide HB5) hV)
  obtain ⟨d1, d2⟩ := hC_1
  clear cc_1 hb5 bd0 hC0
  obtain ⟨G, hG⟩ : ∃ G, Nat.gcd N1.natAbs D1.natAbs = G := ⟨_, rfl⟩
  rw [hG] at HV5 hv5
  have HGG := hide hG
  have HG0 : Hid (0 < G) := by show _ < _; rw [← hG]; exact Nat.gcd_pos_of_pos_right _ (unhide HDN)
  have HPG : Hid (_ : Prop) := hide ((unhide HDV).down D1.natAbs G (by rw [← hG]; exact Nat.gcd_le_right _ (unhide HDN)) (unhide HPD))
  clear hG
  rcases one_word hv5 with ⟨b5, o5, rfl, rfl, hG1, hc5⟩ | ⟨b5, o5, t5, rfl, rfl, hG1, hc5, ht5⟩ | ⟨ht5, hG1⟩
  ·clear hv5
   have hG2 : G = 1 := by omega
   have hlo := low_one (N := N1) (D := D1.natAbs) (unhide HDN) (by rw [unhide HGG]; exact hG2)
   have HLO := hide hlo
   clear hG1 hG2 hlo
   go_wp2
   go_ret
   exact ⟨rfl, by rw [← unhide HQ]; exact ⟨by rw [(unhide HLO).1]; exact unhide HXX w5 (unhide HB5), by rw [(unhide HLO).2, show ((D1.natAbs : Nat) : Int) = D1 by have := unhide HD0; omega]; exact unhide HYY w5 (unhide HB5)⟩, fun w0 h0 hb => bstep (unhide HFR w0 h0 hb) (unhide HB5)⟩
  ·clear hv5 hG1
   go_wp2_with fail
   refine ((unhide HDV).dv w5 (.slice a n c) (.slice (some ⟨b5, o5, none⟩) 1 c5) N1.natAbs G (unhide HN5) (unhide HV5) (unhide HPN) (unhide HPG) (unhide HG0)).mono ?_
   rintro e w6 ⟨v6, u6, rfl, hv6, hb6⟩
   have l2 := (unhide HYY w5 (unhide HB5)).below hb6
   obtain ⟨a2', n2', c2', l3, _⟩ := l2.ab
   have l4 : w6.cell? ⟨b, o + 2 + 1, none⟩ = some (.slice a2 n2 c2) := (unhide HC5 w6 hb6).2
   have HV6 := hide hv6
   have HB6 := hide (bstep (unhide HB5) hb6)
   have HN26 := hide ((unhide HN25).below hb6)
   have HV56 := hide ((unhide HV5).below hb6)
   clear hv6 hb6 l2 l3 d1 d2
   go_wp2_with fail
   refine ((unhide HDV).dv w6 (.slice a2 n2 c2) (.slice (some ⟨b5, o5, none⟩) 1 c5) D1.natAbs G (unhide HN26) (unhide HV56) (unhide HPD) (unhide HPG) (unhide HG0)).mono ?_
   rintro e w7 ⟨v7, u7, rfl, hv7, hb7⟩
   have HV67 : Hid (HNat w7 v6 _) := (unhide HV6).below hb7
   have HB7 := hide (bstep (unhide HB6) hb7)
   have HV7 := hide hv7
   obtain ⟨a6, n6, c6, rfl, _⟩ := id (unhide HV67)
   obtain ⟨a7, n7, c7, rfl, _⟩ := id (unhide HV7)
   have x7 := unhide HXX w7 (unhide HB7)
   have y7 := unhide HYY w7 (unhide HB7)
   have f1 := x7.fa
   have f2 := y7.fa
   have ⟨k1, k2⟩ := unhide HCC w7 (unhide HB7)
   have k3 : (w7.setCell ⟨b, o + 1, none⟩ (.slice a6 n6 c6)).cell? ⟨b, o + 2 + 1, none⟩ = some (.slice a2 n2 c2) := by
    rw [World.cell?_setCell_other _ _ _ _ (fun e => by injection e with _ e; omega)]; exact k2
   have hlow := low_parts N1 D1.natAbs G (by have := unhide HD0; omega) (unhide HGG)
   have r1 : BInt (w7.setCell ⟨b, o + 1, none⟩ (.slice a6 n6 c6)) b o (mkRat N1 D1.natAbs).num := x7.setAbs hlow.1 (by rw [hlow.2.1]; exact unhide HV67)
   have r2 := (y7.setOff (v := .slice a6 n6 c6) x7.slot (apart02 b o)).setAbs (M := ((mkRat N1 D1.natAbs).den : Int)) (a := a7) (n := n7) (c := c7) ⟨fun h => by omega, fun h => by have := unhide HD0; omega⟩ ((by rw [Int.natAbs_natCast, hlow.2.2]; exact unhide HV7 : HNat w7 (.slice a7 n7 c7) (((mkRat N1 D1.natAbs).den : Int).natAbs : Int)).setAt _ _ x7.slot.nos.2)
   have R1 := hide (r1.setOff (v := .slice a7 n7 c7) (y7.setOff (v := .slice a6 n6 c6) x7.slot (apart02 b o)).slot (apart20 b o))
   have R2 := hide r2
   clear x7 y7 k2 hlow r1 r2 hv7 hb7 l4
   go_wp2
   go_ret
   exact ⟨rfl, by rw [← unhide HQ]; exact ⟨unhide R1, unhide R2⟩, fun w0 h0 hb => ((bstep (unhide HFR w0 h0 hb) (unhide HB7)).setCell (p := ⟨b, o + 1, none⟩) hb _).setCell (p := ⟨b, o + 2 + 1, none⟩) hb _⟩
  ·clear hv5 hG1
   go_wp2_with fail
   refine ((unhide HDV).dv w5 (.slice a n c) (.slice a5 n5 c5) N1.natAbs G (unhide HN5) (unhide HV5) (unhide HPN) (unhide HPG) (unhide HG0)).mono ?_
   rintro e w6 ⟨v6, u6, rfl, hv6, hb6⟩
   have l2 := (unhide HYY w5 (unhide HB5)).below hb6
   obtain ⟨a2', n2', c2', l3, _⟩ := l2.ab
   have l4 : w6.cell? ⟨b, o + 2 + 1, none⟩ = some (.slice a2 n2 c2) := (unhide HC5 w6 hb6).2
   have HV6 := hide hv6
   have HB6 := hide (bstep (unhide HB5) hb6)
   have HN26 := hide ((unhide HN25).below hb6)
   have HV56 := hide ((unhide HV5).below hb6)
   clear hv6 hb6 l2 l3 d1 d2
   go_wp2_with fail
   refine ((unhide HDV).dv w6 (.slice a2 n2 c2) (.slice a5 n5 c5) D1.natAbs G (unhide HN26) (unhide HV56) (unhide HPD) (unhide HPG) (unhide HG0)).mono ?_
   rintro e w7 ⟨v7, u7, rfl, hv7, hb7⟩
   have HV67 : Hid (HNat w7 v6 _) := (unhide HV6).below hb7
   have HB7 := hide (bstep (unhide HB6) hb7)
   have HV7 := hide hv7
   obtain ⟨a6, n6, c6, rfl, _⟩ := id (unhide HV67)
   obtain ⟨a7, n7, c7, rfl, _⟩ := id (unhide HV7)
   have x7 := unhide HXX w7 (unhide HB7)
   have y7 := unhide HYY w7 (unhide HB7)
   have f1 := x7.fa
   have f2 := y7.fa
   have ⟨k1, k2⟩ := unhide HCC w7 (unhide HB7)
   have k3 : (w7.setCell ⟨b, o + 1, none⟩ (.slice a6 n6 c6)).cell? ⟨b, o + 2 + 1, none⟩ = some (.slice a2 n2 c2) := by
    rw [World.cell?_setCell_other _ _ _ _ (fun e => by injection e with _ e; omega)]; exact k2
   have hlow := low_parts N1 D1.natAbs G (by have := unhide HD0; omega) (unhide HGG)
   have r1 : BInt (w7.setCell ⟨b, o + 1, none⟩ (.slice a6 n6 c6)) b o (mkRat N1 D1.natAbs).num := x7.setAbs hlow.1 (by rw [hlow.2.1]; exact unhide HV67)
   have r2 := (y7.setOff (v := .slice a6 n6 c6) x7.slot (apart02 b o)).setAbs (M := ((mkRat N1 D1.natAbs).den : Int)) (a := a7) (n := n7) (c := c7) ⟨fun h => by omega, fun h => by have := unhide HD0; omega⟩ ((by rw [Int.natAbs_natCast, hlow.2.2]; exact unhide HV7 : HNat w7 (.slice a7 n7 c7) (((mkRat N1 D1.natAbs).den : Int).natAbs : Int)).setAt _ _ x7.slot.nos.2)
   have R1 := hide (r1.setOff (v := .slice a7 n7 c7) (y7.setOff (v := .slice a6 n6 c6) x7.slot (apart02 b o)).slot (apart20 b o))
   have R2 := hide r2
   clear x7 y7 k2 hlow r1 r2 hv7 hb7 l4
   go_wp2
   go_ret
   exact ⟨rfl, by rw [← unhide HQ]; exact ⟨unhide R1, unhide R2⟩, fun w0 h0 hb => ((bstep (unhide HFR w0 h0 hb) (unhide HB7)).setCell (p := ⟨b, o + 1, none⟩) hb _).setCell (p := ⟨b, o + 2 + 1, none⟩) hb _⟩
theorem norm_any (P : Nat → Prop) (dv : Divs P) (b o : Nat) (N D : Int) (w : World) (x : BInt w b o N) (y : BInt w b (o + 2) D) (hD : D ≠ 0) (pn : P N.natAbs) (pd : P D.natAbs) :
  Calls Tryz.prog 116 #[.pointer (some ⟨b, o, none⟩)] w (MakesAt w b o (Rat.divInt N D)) := by
 by_cases hng : D < 0
 ·exact norm_neg P dv b o N D w x y pn pd hng
 ·exact norm_pos P dv b o N D w x y hD pn pd hng
end Go.Proofs.YtcelbgleajpenaaGreatDoor
