/- The checker's long division. -/
import Derived.Test.YtcelbgleajpenaaGreatDoorB25
import Derived.Test.YtcelbgleajpenaaGreatDoorMB
import Derived.Deep.CutBlock
import Derived.Deep.CutRange
namespace Go.Proofs.YtcelbgleajpenaaGreatDoor
open Go.RowKit Go.Sort

theorem drew32 (w : World) (k : Nat) : Below w.heap.size w (w.drewN k) := ⟨rfl, rfl, rfl, Nat.le_refl _, fun _ _ => rfl⟩
theorem SmH.le {A B : Int} (h : SmH A) (hle : B ≤ A) : SmH B := Int.lt_of_le_of_lt hle h
theorem top_great {B : Int} {m : Nat} (hl : Wh.Len B m) (hm : 0 < m) (h : 2147483648 * Wh.pw (m - 1) ≤ B) : 2147483648 ≤ Wh.dig B (m - 1) := by
 unfold Wh.dig
 have p := Wh.pw_pos (m - 1)
 have h1 : 2147483648 ≤ B / Wh.pw (m - 1) := (Int.le_ediv_iff_mul_le p).2 h
 have h2 : B / Wh.pw (m - 1) < 4294967296 := (Int.ediv_lt_iff_lt_mul p).2 (by
  have := hl.2.1
  rw [show m = m - 1 + 1 by omega, Wh.pw_succ] at this
  exact this)
 omega
structure DivS (w3 wr : World) (gu gq K M : Nat) (us qs : List Int) (A' B' : Int) (jj : Nat) : Prop where
 U : HOwn w3 wr gu us
 Q : HOwn w3 wr gq qs
 lu : us.length = K
 lq : qs.length = M
 wu : ∀ k, k < us.length → Wh.W32 us[k]!
 wq : ∀ k, k < qs.length → Wh.W32 qs[k]!
 zq : ∀ k, k < jj → qs[k]! = 0
 eq : lv us K + B' * lv qs M = A'
 lt : lv us K < B' * Wh.pw jj
theorem DivS.drew {w3 wr : World} {gu gq K M : Nat} {us qs : List Int} {A' B' : Int} {jj : Nat} (h : DivS w3 wr gu gq K M us qs A' B' jj) (k : Nat) : DivS w3 (wr.drewN k) gu gq K M us qs A' B' jj := ⟨h.U.drew k, h.Q.drew k, h.lu, h.lq, h.wu, h.wq, h.zq, h.eq, h.lt⟩
theorem DivS.start {w3 wr : World} {gu gq K M m n : Nat} {A' B' : Int} (U : HOwn w3 wr gu (digL A' K)) (Q : HOwn w3 wr gq (List.replicate M 0)) (hA0 : 0 ≤ A') (hA : A' < Wh.pw (n + 1)) (hK : K = n + 2) (hM : m + M = K) (hm : 0 < m) (hB : 2147483648 * Wh.pw (m - 1) ≤ B') : DivS w3 wr gu gq K M (digL A' K) (List.replicate M 0) A' B' M := by
 have e : lv (digL A' K) K = A' := by
  unfold lv
  rw [Wh.vl_congr (g := Wh.dig A') (fun j hj => digL_get hj)]
  exact Wh.vl_dig_all hA0 (Int.lt_of_lt_of_le hA (Wh.pw_mono (by omega)))
 have z : lv (List.replicate M 0) M = 0 := by
  unfold lv
  exact Wh.vl_zeros _ _ (fun j hj => by simp [hj])
 refine ⟨U, Q, digL_length _ _, by simp, fun k hk => ?_, fun k hk => ?_, fun k hk => by simp [hk], by rw [e, z]; omega, ?_⟩
 ·rw [digL_length] at hk
  rw [digL_get hk]; exact Wh.dig_w _ _
 ·simp at hk; simp [hk]; exact ⟨by decide, by decide⟩
 ·rw [e]
  have h1 : 2147483648 * Wh.pw (m - 1) * Wh.pw M ≤ B' * Wh.pw M := Int.mul_le_mul_of_nonneg_right hB (by have := Wh.pw_pos M; omega)
  rw [Int.mul_assoc, ← Wh.pw_add, show m - 1 + M = n + 1 by omega] at h1
  have := Wh.pw_pos (n + 1)
  omega
theorem HOwn.other {w wr : World} {g g2 : Nat} {xs ys : List Int} (h : HOwn w wr g xs) (h2 : HOwn w wr g2 ys) (hne : g ≠ g2) (j : Nat) (x : Int) : HOwn w (wr.setCell ⟨g2, j, none⟩ (.int .u32 x)) g xs := by
 refine ⟨?_, h.bl.setCell h2.gl _, h.gl⟩
 rw [setCell_eq]
 simp only [mapBlock, Array.getElem?_modify]
 rw [if_neg (Ne.symm hne)]
 exact h.row
theorem p1_lt {u : Nat → Int} {K j m : Nat} {B : Int} (h2 : 2 ≤ m) (hu : ∀ i, i < K → Wh.W32 (u i)) (hK : j + m < K) (hl : Wh.Len B m) (hlt : Wh.vl u K < B * Wh.pw (j + 1)) :
  u (j + m) * 4294967296 + u (j + m - 1) < Wh.dig B (m - 1) * 4294967296 + 4294967296 := by
 obtain ⟨k, rfl⟩ : ∃ k, m = k + 2 := ⟨m - 2, by omega⟩
 exact Wh.p1_lt hu hK hl.1 hl.2.1 hlt
theorem digit_of {u : Nat → Int} {K j m : Nat} {B g r : Int} (h2 : 2 ≤ m) (hu : ∀ i, i < K → Wh.W32 (u i)) (hK : j + m < K) (hl : Wh.Len B m) (hlt : Wh.vl u K < B * Wh.pw (j + 1))
  (hG : Wh.Gu (u (j + m) * 4294967296 + u (j + m - 1)) ((u (j + m) * 4294967296 + u (j + m - 1)) * 4294967296 + u (j + m - 2)) (Wh.dig B (m - 1)) (Wh.dig B (m - 1) * 4294967296 + Wh.dig B (m - 2)) g r)
  (ht : g * Wh.dig B (m - 2) ≤ r * 4294967296 + u (j + m - 2)) : Wh.win u j (m + 1) / B ≤ g ∧ g ≤ Wh.win u j (m + 1) / B + 1 ∧ 0 ≤ Wh.win u j (m + 1) / B ∧ Wh.win u j (m + 1) / B < 4294967296 := by
 obtain ⟨k, rfl⟩ : ∃ k, m = k + 2 := ⟨m - 2, by omega⟩
 exact Wh.digit_of hu hK hl.2.1 (hl.2.2.resolve_left (by omega)) hlt hG ht
structure RowS (w3 wr : World) (gu gq K : Nat) (xs zs qs : List Int) (j i : Nat) : Prop where
 U : HOwn w3 wr gu zs
 Q : HOwn w3 wr gq qs
 lz : zs.length = K
 wz : ∀ k, k < zs.length → Wh.W32 zs[k]!
 lo : ∀ k, k < j → zs[k]! = xs[k]!
 hi : ∀ k, j + i ≤ k → zs[k]! = xs[k]!
theorem RowS.step {w3 wr : World} {gu gq K : Nat} {xs zs qs : List Int} {j i : Nat} (h : RowS w3 wr gu gq K xs zs qs j i) (hne : gu ≠ gq) {r : Int} (hr : Wh.W32 r) : RowS w3 (wr.setCell ⟨gu, j + i, none⟩ (.int .u32 r)) gu gq K xs (zs.set (j + i) r) qs j (i + 1) :=
 ⟨h.U.set _ _, h.Q.other h.U (Ne.symm hne) _ _, by rw [List.length_set]; exact h.lz, w_set h.wz hr, fun k hk => by rw [get_set (by omega)]; exact h.lo k hk, fun k hk => by rw [get_set (by omega)]; exact h.hi k (by omega)⟩
theorem RowS.drew {w3 wr : World} {gu gq K : Nat} {xs zs qs : List Int} {j i : Nat} (h : RowS w3 wr gu gq K xs zs qs j i) (k : Nat) : RowS w3 (wr.drewN k) gu gq K xs zs qs j i := ⟨h.U.drew k, h.Q.drew k, h.lz, h.wz, h.lo, h.hi⟩
theorem win_step {zs : List Int} {j i : Nat} (r : Int) (h : j + i < zs.length) : Wh.win (fun k => (zs.set (j + i) r)[k]!) j (i + 1) = Wh.win (fun k => zs[k]!) j i + Wh.pw i * r := by
 unfold Wh.win
 rw [Wh.vl_succ]
 show Wh.vl (fun t => (zs.set (j + i) r)[j + t]!) i + Wh.pw i * (zs.set (j + i) r)[j + i]! = _
 have e : (zs.set (j + i) r)[j + i]! = r := by simp [h]
 rw [e, Wh.vl_congr (g := fun t => zs[j + t]!) (fun t ht => get_set (by omega))]
theorem win_same {zs : List Int} {j m : Nat} (r : Int) : Wh.win (fun k => (zs.set (j + m) r)[k]!) j m = Wh.win (fun k => zs[k]!) j m := Wh.vl_congr (fun t ht => get_set (by omega))
theorem DivS.next {w3 wr0 wr : World} {gu gq K M m : Nat} {us zs qs : List Int} {A' B' q : Int} {j : Nat} (D : DivS w3 wr0 gu gq K M us qs A' B' (j + 1)) (hj : j < M) (hK : j + m < K) (hl : Wh.Len B' m) (hm : 0 < m)
  (U : HOwn w3 wr gu zs) (Q : HOwn w3 wr gq (qs.set j q)) (lz : zs.length = K) (wz : ∀ k, k < zs.length → Wh.W32 zs[k]!) (lo : ∀ k, k < j → zs[k]! = us[k]!) (hi : ∀ k, j + m < k → zs[k]! = us[k]!) (top : zs[j + m]! = 0)
  (hq : q = Wh.win (fun k => us[k]!) j (m + 1) / B') (wq : Wh.W32 q) (hv : Wh.win (fun k => zs[k]!) j m = Wh.win (fun k => us[k]!) j (m + 1) - q * B') : DivS w3 wr gu gq K M zs (qs.set j q) A' B' j := by
 have st := Wh.win_next (u := fun k => us[k]!) (x := fun k => zs[k]!) (K := K) (j := j) (m := m) (A := A') (B := B') (W := lv qs M) (q := q) (fun k hk => D.wu k (by rw [D.lu]; exact hk)) hK (hl.pos hm) hl.2.1 D.lt D.eq lo (fun k h1 _ => hi k h1) top hq hv
 refine ⟨U, Q, lz, by rw [List.length_set]; exact D.lq, wz, w_set D.wq wq, fun k hk => by rw [get_set (by omega)]; exact D.zq k (by omega), ?_, st.2⟩
 rw [lv_set q (by rw [D.lq]; exact hj) hj, D.zq j (by omega), Int.sub_zero]
 exact st.1
theorem top_eq {S X g B p x c d : Int} (h : S = X - g * B + p * (c + d)) : S + p * (x - c - d) = X + p * x - g * B := by
 rw [h]
 grind
def DivPost (w : World) (A B : Int) (e : Ending) (w' : World) : Prop := ∃ v1 v2, e = .returned (.tuple #[v1, v2]) ∧ HNat w' v1 (A / B) ∧ HNat w' v2 (A % B) ∧ Below w.heap.size w w'

set_option maxHeartbeats 8000000 in
set_option maxRecDepth 100000 in
set_option linter.unusedSimpArgs false in
theorem div32_long (va vb : Value) (A B : Int) (w : World) (ha : HNat w va A) (hb : HNat w vb B) (sa : SmH A) (hBA : B ≤ A) (hA2 : Wh.pw 2 ≤ A) (hB1 : Wh.pw 1 ≤ B) :
  Calls Tryz.prog 150 #[va, vb] w (DivPost w A B) := by
 obtain ⟨a, n, c, rfl, hl, hra⟩ := ha
 obtain ⟨a', m, c', rfl, hl', hrb⟩ := hb
 have hn6 : n ≤ 1000000 := sa.len hl
 have hn3 : 3 ≤ n := by
  rcases Nat.lt_or_ge n 3 with h | h
  ·have := Wh.pw_mono (m := n) (n := 2) (by omega); have := hl.2.1; omega
  ·exact h
 have hm2 : 2 ≤ m := by
  rcases Nat.lt_or_ge m 2 with h | h
  ·have := Wh.pw_mono (m := m) (n := 1) (by omega); have := hl'.2.1; omega
  ·exact h
 have hmn : m ≤ n := by
  rcases Nat.lt_or_ge n m with h | h
  ·have := Wh.Len.lt hl hl' h
   omega
  ·exact h
 have hsg : ¬ Wh.sg A B < 0 := by
  unfold Wh.sg
  rw [if_neg (by omega)]
  by_cases e : A = B
  ·rw [if_pos e]; decide
  ·rw [if_neg e]; decide
 have HCP := hide (cmp32_any (.slice a n c) (.slice a' m c') A B w ⟨a, n, c, rfl, hl, hra⟩ ⟨a', m, c', rfl, hl', hrb⟩)
 obtain ⟨z, hz⟩ : ∃ z, Wh.sg A B = z := ⟨_, rfl⟩
 rw [hz] at HCP hsg
 have HLA := hide hl
 have HLB := hide hl'
 have HRA := hide hra
 have HRB := hide hrb
 have HSA := hide sa
 have HBA := hide hBA
 have e1 : ((m : Int) == 0) = false := by simp; omega
 have e2 : decide ((n : Int) ≤ 2) = false := by rw [decide_eq_false_iff_not]; omega
 have HN3 := hide hn3
 have HM2 := hide hm2
 have HMN := hide hmn
 have HN6 := hide hn6
 have hsg' : decide (z < 0) = false := by rw [decide_eq_false_iff_not]; exact hsg
 have e3 : ((m : Int) == 1) = false := by simp; omega
 clear hl hl' hra hrb sa hBA hA2 hB1 hz hn3 hm2 hmn hn6 hsg
 go_enter Tryz.func150, Tryz.ntmps150
 go_wp2_with fail
 refine (unhide HCP).mono ?_
 rintro e w1 ⟨rfl, k1, rfl⟩
 have HB1 := hide (drew32 w k1)
 go_wp2_with fail
 refine (length32_any a' m c' B (w.drewN k1) (unhide HLB) ((unhide HRB).below (unhide HB1)) (by have := unhide HM2; omega) (by have := unhide HMN; have := unhide HN6; omega)).mono ?_
 have hm2 := unhide HM2
 have hmn := unhide HMN
 have hn6 := unhide HN6
 rintro e w2 ⟨k, rfl, hk1, hk2, lo, hi, rfl⟩
 have HNL := hide (norm_len32 (unhide HLB) (by omega) hk1 hk2 lo hi)
 have s1 : IntKind.i64.wrap (((m : Int) - 1) * 32 + (k : Int) - 1) = ((m : Int) - 1) * 32 + (k : Int) - 1 := by rw [IntKind.wrap_i64]; omega
 have s2 : Int.tmod (((m : Int) - 1) * 32 + (k : Int) - 1) 32 = (k : Int) - 1 := by rw [Int.tmod_eq_emod_of_nonneg (by omega)]; omega
 have s3 : IntKind.i64.wrap ((k : Int) - 1) = (k : Int) - 1 := by rw [IntKind.wrap_i64]; omega
 obtain ⟨s, hs⟩ : ∃ s, 32 - k = s := ⟨_, rfl⟩
 have s4 : IntKind.i64.wrap (32 - ((k : Int) - 1)) = (s : Int) + 1 := by rw [IntKind.wrap_i64]; omega
 have s5 : IntKind.i64.wrap ((s : Int) + 1 - 1) = (s : Int) := by rw [IntKind.wrap_i64]; omega
 have s6 : IntKind.u64.wrap (s : Int) = (s : Int) := by rw [IntKind.wrap_u64]; omega
 have s7 : IntKind.i64.wrap (s : Int) = (s : Int) := by rw [IntKind.wrap_i64]; omega
 rw [hs] at HNL
 have hs32 : s < 32 := by omega
 have HK := hide hs32
 clear lo hi hk1 hk2 hs hm2 hmn hn6
 go_wp2_with fail
 refine (left32_any (.slice a' m c') B s (w.drewN k1) ⟨a', m, c', rfl, unhide HLB, (unhide HRB).below (unhide HB1)⟩ ((unhide HSA).le (unhide HBA)) (unhide HK)).mono ?_
 rintro e w3 ⟨v3, rfl, hv3, hb3⟩
 obtain ⟨av, mv, cv, rfl, hlv, hrv⟩ := hv3
 obtain rfl : mv = m := hlv.uniq (unhide HNL).1
 obtain ⟨K, hK⟩ : ∃ K, n + 2 = K := ⟨_, rfl⟩
 have HKE := hide hK
 have qmk := make_halves K (by have := unhide HN6; omega) w3
 have S0 := HOwn.start w3 K
 have bA := abelow w3 (.cells (halves (List.replicate K 0)).toArray 175)
 obtain ⟨W3, hW3⟩ : ∃ W, w3.alloc (.cells (halves (List.replicate K 0)).toArray 175) = W := ⟨_, rfl⟩
 obtain ⟨gu, hgu⟩ : ∃ g, w3.heap.size = g := ⟨_, rfl⟩
 have HB3 := hide (bstep (unhide HB1) hb3)
 rw [hW3, hgu] at qmk S0
 have HS1 := hide S0
 have HRV := hide hrv
 have HLV := hide hlv
 have ek : IntKind.i64.wrap ((n : Int) + 2) = (K : Int) := by have := unhide HN6; rw [IntKind.wrap_i64]; omega
 clear hb3 hlv hrv S0 bA hK hW3 hgu
 go_wp2_with fail
 refine (left32_any (.slice a n c) A s W3 ⟨a, n, c, rfl, unhide HLA, (unhide HRA).below (bstep (unhide HB3) (unhide HS1).bl)⟩ (unhide HSA) (unhide HK)).mono ?_
 rintro e w4 ⟨v4, rfl, hv4, hb4⟩
 obtain ⟨ax, nx, cx, rfl, hlx, hrx⟩ := hv4
 have hnx : nx ≤ n + 1 := by
  rcases Nat.lt_or_ge (n + 1) nx with h | h
  ·exfalso
   have h1 := hlx.2.2
   have h2 := Wh.pw_mono (m := n + 1) (n := nx - 1) (by omega)
   have h3 := (unhide HLA).2.1
   have h0 := (unhide HLA).1
   have h4 := two_mono (j := s) (k := 32) (by have := unhide HK; omega)
   have h5 : (2 : Int) ^ 32 = 4294967296 := by decide
   have h6 : A * 2 ^ s ≤ A * 4294967296 := Int.mul_le_mul_of_nonneg_left (by omega) h0
   rw [Wh.pw_succ] at h2
   omega
  ·exact h
 obtain ⟨W5, qcp, own5⟩ := copy32_run ((unhide HS1).keep hb4) (by have := unhide HKE; omega) hlx hrx
 have HO5 := hide own5
 obtain ⟨M, hM⟩ : ∃ M, K - mv = M := ⟨_, rfl⟩
 have HME := hide hM
 have hm2 := unhide HM2
 have hmn := unhide HMN
 have hn6 := unhide HN6
 have hK := unhide HKE
 have em1 : IntKind.i64.wrap ((K : Int) - (mv : Int)) = (M : Int) := by rw [IntKind.wrap_i64]; omega
 have em2 : IntKind.i64.wrap ((M : Int) - 1) = (M : Int) - 1 := by rw [IntKind.wrap_i64]; omega
 have em3 : IntKind.i64.wrap (M : Int) = (M : Int) := by rw [IntKind.wrap_i64]; omega
 have em4 : IntKind.i64.wrap ((M : Int) - 1 + 1) = (M : Int) := by rw [IntKind.wrap_i64]; omega
 have qmk2 := make_halves M (by omega) W5
 have Q0 := HOwn.start W5 M
 have bQ := abelow W5 (.cells (halves (List.replicate M 0)).toArray 175)
 obtain ⟨W6, hW6⟩ : ∃ W, W5.alloc (.cells (halves (List.replicate M 0)).toArray 175) = W := ⟨_, rfl⟩
 obtain ⟨gq, hgq⟩ : ∃ g, W5.heap.size = g := ⟨_, rfl⟩
 rw [hW6, hgq] at qmk2 Q0
 rw [hW6] at bQ
 have hlu := own5.lt
 have HU6 := hide (own5.keep bQ)
 have HQ6 : Hid (HOwn w3 W6 gq (List.replicate M 0)) := ⟨Q0.row, bstep own5.bl bQ, by have := own5.bl.size; omega⟩
 have HNE : Hid (gu < gq) := by show _ < _; omega
 have rv := (unhide HRV).below (unhide HU6).bl
 obtain ⟨r1, r2, r3⟩ := rv
 obtain ⟨bv, ov, rfl, hbv, hcv⟩ := r3 (by omega)
 have ct := hcv (mv - 1) (by omega)
 have cn := hcv (mv - 2) (by omega)
 obtain ⟨tp, htp⟩ : ∃ t, Wh.dig (B * 2 ^ s) (mv - 1) = t := ⟨_, rfl⟩
 obtain ⟨nx2, hnx2⟩ : ∃ t, Wh.dig (B * 2 ^ s) (mv - 2) = t := ⟨_, rfl⟩
 rw [htp] at ct
 rw [hnx2] at cn
 have HTP := hide htp
 have HNX := hide hnx2
 have i1 : IntKind.i64.wrap ((mv : Int) - 1) = (mv : Int) - 1 := by rw [IntKind.wrap_i64]; omega
 have i2 : IntKind.i64.wrap ((mv : Int) - 2) = (mv : Int) - 2 := by rw [IntKind.wrap_i64]; omega
 have i3 : ((mv : Int) - 1).toNat = mv - 1 := by omega
 have i4 : ((mv : Int) - 2).toNat = mv - 2 := by omega
 have i5 : (0 : Int) ≤ (mv : Int) - 1 := by omega
 have i6 : (0 : Int) ≤ (mv : Int) - 2 := by omega
 have i7 : (mv : Int) - 1 < (mv : Int) := by omega
 have i8 : (mv : Int) - 2 < (mv : Int) := by omega
 have wt : Wh.W32 tp := by rw [← htp]; exact Wh.dig_w _ _
 have wn : Wh.W32 nx2 := by rw [← hnx2]; exact Wh.dig_w _ _
 have u1 : IntKind.u64.wrap tp = tp := by rw [IntKind.wrap_u64]; have := wt.1; have := wt.2; omega
 have u2 : IntKind.u64.wrap nx2 = nx2 := by rw [IntKind.wrap_u64]; have := wn.1; have := wn.2; omega
 clear hb4 hlx hrx hnx own5 HS1 hM hm2 hmn hn6 hK hW6 hgq hlu Q0 bQ r1 r2 r3 hcv htp hnx2 wt wn
 go_wp2_with fail
 go_quiet (fail)
 go_wp2_with fail
 go_loopw [18] (fun vj wr => ∃ (jj : Nat) (us qs : List Int), vj = .int .i64 ((jj : Int) - 1) ∧ jj ≤ M ∧ DivS w3 wr gu gq K M us qs (A * 2 ^ s) (B * 2 ^ s) jj) (fun vj _ => (intOf vj + 1).toNat)
 case atStart =>
  have h0 := (unhide HLA).1
  have h3 := (unhide HLA).2.1
  have h4 := two_mono (j := s) (k := 32) (by have := unhide HK; omega)
  have h7 := two_pos s
  have h5 : (2 : Int) ^ 32 = 4294967296 := by decide
  have h6 : A * 2 ^ s ≤ A * 4294967296 := Int.mul_le_mul_of_nonneg_left (by omega) h0
  have h8 : 0 ≤ A * 2 ^ s := Int.mul_nonneg h0 (by omega)
  have hk := unhide HKE
  have hm := unhide HME
  have hm2 := unhide HM2
  have hmn := unhide HMN
  exact ⟨M, _, _, rfl, Nat.le_refl _, DivS.start (n := n) (m := mv) ((unhide HU6).drew _) ((unhide HQ6).drew _) h8 (by rw [Wh.pw_succ]; omega) (by omega) (by omega) (by omega) (unhide HNL).2⟩
 case round =>
  obtain ⟨jj, us, qs, rfl, hjj, D⟩ := hrel
  by_cases hj0 : jj = 0
  ·subst hj0
   have hL := D.lt
   rw [Wh.pw_zero, Int.mul_one] at hL
   have hS := two_pos s
   have bu := Wh.vl_bd (f := fun j => us[j]!) (n := K) (fun j hj => D.wu j (by rw [D.lu]; exact hj))
   have bq := Wh.vl_bd (f := fun j => qs[j]!) (n := M) (fun j hj => D.wq j (by rw [D.lq]; exact hj))
   have hBp : 0 < B := (unhide HLB).pos (by have := unhide HM2; omega)
   have ⟨eW, eL⟩ := Wh.div_scaled hS hBp (show 0 ≤ lv us K from bu.1) hL D.eq
   have hk := unhide HKE
   have hm := unhide HME
   have hn6 := unhide HN6
   have rq := D.Q.hrow (by rw [D.lq]; omega)
   rw [D.lq] at rq
   have ru := D.U.hrow (by rw [D.lu]; omega)
   rw [D.lu] at ru
   have HTQ := hide (trim32_any _ M M _ wr rq (fun j hj => D.wq j (by rw [D.lq]; exact hj)))
   have HTU := hide (trim32_any _ K K _ wr ru (fun j hj => D.wu j (by rw [D.lu]; exact hj)))
   have HHQ : Hid (∀ k, k ≤ M → Wh.Len (Wh.vl (fun j => qs[j]!) M) k → HNat wr (.slice (some ⟨gq, 0, none⟩) k M) (A / B)) := fun k hk hl => by
    have h := hNat_trim rq (fun j hj => D.wq j (by rw [D.lq]; exact hj)) hk hl
    rw [← eW]
    exact h
   have HHU : Hid (∀ k, k ≤ K → Wh.Len (Wh.vl (fun j => us[j]!) K) k → HNat wr (.slice (some ⟨gu, 0, none⟩) k K) (lv us K)) := fun k hk hl => hNat_trim ru (fun j hj => D.wu j (by rw [D.lu]; exact hj)) hk hl
   have HEL := hide eL
   have HSL : Hid (SmH (lv us K)) := by
    exact Int.lt_trans hL (Int.lt_of_lt_of_le (unhide HNL).1.2.1 (Wh.pw_mono (m := mv) (n := 1000000) (by have := unhide HMN; omega)))
   have HBB := hide (bstep (unhide HB3) D.U.bl)
   clear D hL bu bq eW eL rq ru hk hm hn6 hjj
   go_wp2_with fail
   (try simp only [Exit.inBlock, Exit.then])
   (try go_wp2_with fail)
   refine (unhide HTQ).mono ?_
   rintro e w9 ⟨kq, rfl, hkq, hlq, rfl⟩
   have HVQ := hide (unhide HHQ kq hkq hlq)
   clear hkq hlq
   go_wp2_with fail
   refine (unhide HTU).mono ?_
   rintro e w9 ⟨ku, rfl, hku, hlu, rfl⟩
   have HVU := hide (unhide HHU ku hku hlu)
   clear hku hlu
   go_wp2_with fail
   refine (right32_any _ _ s _ (unhide HVU) (unhide HSL) (unhide HK)).mono ?_
   rintro e w10 ⟨v10, rfl, hv10, hb10⟩
   rw [unhide HEL] at hv10
   have HV10 := hide hv10
   obtain ⟨a10, n10, c10, rfl, _⟩ := hv10
   have HQ10 := hide ((unhide HVQ).below hb10)
   have HB10 := hide (bstep (unhide HBB) hb10)
   clear hb10
   go_wp2
   go_ret2
   exact ⟨_, _, rfl, unhide HQ10, unhide HV10, unhide HB10⟩
  ·obtain ⟨j, rfl⟩ : ∃ j, jj = j + 1 := ⟨jj - 1, by omega⟩
   have ej : ((j + 1 : Nat) : Int) - 1 = (j : Int) := by omega
   rw [ej]
   have hk := unhide HKE
   have hm := unhide HME
   have hn6 := unhide HN6
   have hm2 := unhide HM2
   have hmn := unhide HMN
   obtain ⟨q0, hq0⟩ : ∃ q, j + mv = q := ⟨_, rfl⟩
   have HQ0 := hide hq0
   have hq1 : q0 < K := by omega
   have a1 : IntKind.i64.wrap ((j : Int) + (mv : Int)) = (q0 : Int) := by rw [IntKind.wrap_i64]; omega
   have a2 : IntKind.i64.wrap ((q0 : Int) - 1) = (q0 : Int) - 1 := by rw [IntKind.wrap_i64]; omega
   have a3 : IntKind.i64.wrap ((q0 : Int) - 2) = (q0 : Int) - 2 := by rw [IntKind.wrap_i64]; omega
   have a4 : (q0 : Int) < (K : Int) := by omega
   have a5 : (q0 : Int) - 1 < (K : Int) := by omega
   have a6 : (q0 : Int) - 2 < (K : Int) := by omega
   have a7 : (0 : Int) ≤ (q0 : Int) := by omega
   have a8 : (0 : Int) ≤ (q0 : Int) - 1 := by omega
   have a9 : (0 : Int) ≤ (q0 : Int) - 2 := by omega
   have a10 : ((q0 : Int) - 1).toNat = q0 - 1 := by omega
   have a11 : ((q0 : Int) - 2).toNat = q0 - 2 := by omega
   have j0 : (0 : Int) ≤ (j : Int) := by omega
   have ⟨c1, _⟩ := D.U.cell (j := q0) (by rw [D.lu]; omega)
   have ⟨c2, _⟩ := D.U.cell (j := q0 - 1) (by rw [D.lu]; omega)
   have w1 := D.wu q0 (by rw [D.lu]; omega)
   have w2 := D.wu (q0 - 1) (by rw [D.lu]; omega)
   obtain ⟨x1, hx1⟩ : ∃ x, us[q0]! = x := ⟨_, rfl⟩
   obtain ⟨x2, hx2⟩ : ∃ x, us[q0 - 1]! = x := ⟨_, rfl⟩
   rw [hx1] at c1 w1
   rw [hx2] at c2 w2
   have HX1 := hide hx1
   have HX2 := hide hx2
   have HW1 := hide w1
   have HW2 := hide w2
   have v1 : IntKind.u64.wrap x1 = x1 := by rw [IntKind.wrap_u64]; have := w1.1; have := w1.2; omega
   have v2 : IntKind.u64.wrap x2 = x2 := by rw [IntKind.wrap_u64]; have := w2.1; have := w2.2; omega
   have v3 : IntKind.u64.wrap (x1 * 4294967296) = x1 * 4294967296 := by rw [IntKind.wrap_u64]; have := w1.1; have := w1.2; omega
   obtain ⟨P1, hP1⟩ : ∃ p, x1 * 4294967296 + x2 = p := ⟨_, rfl⟩
   have v4 : bits .or .u64 (x1 * 4294967296) x2 = P1 := by rw [← hP1]; exact bits_join .u64 64 (by decide) (fun n h1 h2 => by rw [IntKind.wrap_u64]; omega) 32 _ _ (by have := w1.1; omega) (by omega) (by have := w1.2; omega) w2.1 (by have := w2.2; omega) (by have := w2.2; omega)
   have HP1 := hide hP1
   have HD := hide D
   have HJ := hide hjj
   clear D hk hm hn6 hm2 hmn hq0 hq1 hx1 hx2 w1 w2 hP1 hjj hj0 ej
   have htg := top_great (unhide HLV) (by have := unhide HM2; omega) (unhide HNL).2
   rw [unhide HTP] at htg
   have HTG := hide htg
   have hP0 : 0 ≤ P1 := by have := unhide HP1; have := (unhide HW1).1; have := (unhide HW2).1; omega
   have hP9 : P1 < 18446744073709551616 := by have := unhide HP1; have := (unhide HW1).2; have := (unhide HW2).2; omega
   have HPB : Hid (0 ≤ P1 ∧ P1 < 18446744073709551616) := ⟨hP0, hP9⟩
   have t0 : (tp == 0) = false := by simp; omega
   have t1 : ¬ tp = 0 := by omega
   obtain ⟨G0, hG0⟩ : ∃ g, P1 / tp = g := ⟨_, rfl⟩
   obtain ⟨R0, hR0⟩ : ∃ g, P1 % tp = g := ⟨_, rfl⟩
   have d1 : Int.tdiv P1 tp = G0 := by rw [Int.tdiv_eq_ediv_of_nonneg hP0]; exact hG0
   have d2 : Int.tmod P1 tp = R0 := by rw [Int.tmod_eq_emod_of_nonneg hP0]; exact hR0
   have g0 : 0 ≤ G0 := by rw [← hG0]; exact Int.ediv_nonneg hP0 (by omega)
   have g1 : G0 ≤ P1 := by rw [← hG0]; exact Int.ediv_le_self _ hP0
   have r0 : 0 ≤ R0 := by rw [← hR0]; exact Int.emod_nonneg _ (by omega)
   have r9 : R0 < tp := by rw [← hR0]; exact Int.emod_lt_of_pos _ (by omega)
   have d3 : IntKind.u64.wrap G0 = G0 := by rw [IntKind.wrap_u64]; omega
   have d4 : IntKind.u64.wrap R0 = R0 := by rw [IntKind.wrap_u64]; have := unhide HTP; have := Wh.dig_lt (B * 2 ^ s) (mv - 1); omega
   have HG0 := hide hG0
   have HR0 := hide hR0
   clear htg hP0 hP9 hG0 hR0 g0 g1 r0 r9
   go_wp2_with fail
   go_quiet (fail)
   go_wp2_with fail
   go_quiet (fail)
   go_upto_block 2 with fail
   obtain ⟨p0, hp0⟩ : ∃ x, us[q0 - 2]! = x := ⟨_, rfl⟩
   have HP0 := hide hp0
   clear hp0
   go_cut [20, 21] from 109 to 266 (fun vg vr wc => ∃ g r : Int, vg = .int .u64 g ∧ vr = .int .u64 r ∧ g < 4294967296 ∧ g * nx2 ≤ r * 4294967296 + p0 ∧ Wh.Gx P1 (P1 * 4294967296 + p0) tp (tp * 4294967296 + nx2) g r ∧ DivS w3 wc gu gq K M us qs (A * 2 ^ s) (B * 2 ^ s) (j + 1))
   case first =>
    go_wp2_with fail
    go_loopw [20, 21] (fun vg vr wc => ∃ g r : Int, vg = .int .u64 g ∧ vr = .int .u64 r ∧ 0 ≤ g ∧ g < 18446744073709551616 ∧ r < 4294967296 ∧ Wh.Gx P1 (P1 * 4294967296 + p0) tp (tp * 4294967296 + nx2) g r ∧ DivS w3 wc gu gq K M us qs (A * 2 ^ s) (B * 2 ^ s) (j + 1)) (fun vg _ _ => (intOf vg).toNat)
    case atStart =>
     have hp := (unhide HD).wu (q0 - 2) (by rw [(unhide HD).lu]; have := unhide HKE; have := unhide HME; have := unhide HQ0; have := unhide HM2; have := unhide HJ; omega)
     rw [unhide HP0] at hp
     have hn := Wh.dig_w (B * 2 ^ s) (mv - 2)
     rw [unhide HNX] at hn
     have ht := unhide HTG
     have ht2 := Wh.dig_lt (B * 2 ^ s) (mv - 1)
     rw [unhide HTP] at ht2
     have hs := Wh.Gx.start (p0 := p0) (next := nx2) (top := tp) (by omega) (unhide HPB).1 hn.1 hp.2
     rw [unhide HG0, unhide HR0] at hs
     have hr : R0 < tp := by rw [← unhide HR0]; exact Int.emod_lt_of_pos _ (by omega)
     have hg : G0 ≤ P1 := by rw [← unhide HG0]; exact Int.ediv_le_self _ (unhide HPB).1
     have := (unhide HPB).2
     exact ⟨G0, R0, rfl, rfl, hs.t0, by omega, by omega, hs, ((unhide HD).drew _).drew _⟩
    case round =>
     obtain ⟨g, r, rfl, rfl, hg0, hg1, hr1, hG, hD⟩ := hrel
     have hqk : q0 - 2 < us.length := by rw [hD.lu]; have := unhide HKE; have := unhide HME; have := unhide HQ0; have := unhide HM2; have := unhide HJ; omega
     have hp := hD.wu (q0 - 2) hqk
     have ⟨c3, _⟩ := hD.U.cell hqk
     rw [unhide HP0] at hp c3
     obtain ⟨hp00, hp01⟩ := hp
     have hn := Wh.dig_w (B * 2 ^ s) (mv - 2)
     rw [unhide HNX] at hn
     obtain ⟨hn0, hn1⟩ := hn
     have ht := unhide HTG
     have ht2 := Wh.dig_lt (B * 2 ^ s) (mv - 1)
     rw [unhide HTP] at ht2
     have hr0 := hG.r0
     have hPt : P1 < tp * 4294967296 + 4294967296 := by
      have hq := unhide HQ0
      have h := p1_lt (u := fun k => us[k]!) (K := K) (j := j) (m := mv) (B := B * 2 ^ s) (unhide HM2) (fun i hi => hD.wu i (by rw [hD.lu]; exact hi)) (by have := unhide HKE; have := unhide HME; have := unhide HM2; have := unhide HJ; omega) (unhide HNL).1 hD.lt
      rw [hq] at h
      simp only [unhide HX1, unhide HX2, unhide HP1, unhide HTP] at h
      exact h
     have hPb := unhide HPB
     have HD2 := hide hD
     by_cases hgb : 4294967295 < g
     ·have hG2 := hG.big (by omega) (by omega)
      have d1 : IntKind.u64.wrap (g - 1) = g - 1 := by rw [IntKind.wrap_u64]; omega
      have d2 : IntKind.u64.wrap (r + tp) = r + tp := by rw [IntKind.wrap_u64]; omega
      by_cases hr2 : 4294967295 < r + tp
      ·have HOV := hide (hG2.over (next := nx2) (p0 := p0) (by omega) hPt (by omega) hn0 hn1 hp00)
       have HG2 := hide hG2
       clear hG hG2 hD hPt hPb
       go_wp2_with fail
       go_meet
       exact ⟨_, _, rfl, rfl, (unhide HOV).1, (unhide HOV).2, unhide HG2, unhide HD2⟩
      ·have hr3 : ¬ (4294967295 : Int) < r + tp := hr2
       have HG2 := hide hG2
       clear hG hG2 hD hPt hPb hr2
       go_wp2_with fail
       exact ⟨⟨_, _, rfl, rfl, by omega, by omega, by omega, unhide HG2, unhide HD2⟩, by simp [intOf]; omega⟩
     ·have hgn : ¬ (4294967295 : Int) < g := hgb
      have y0 : 0 ≤ g * nx2 := Int.mul_nonneg hg0 hn0
      have y1 : g * nx2 ≤ 4294967295 * 4294967295 := Int.mul_le_mul (by omega) (by omega) hn0 (by omega)
      obtain ⟨y, hy⟩ : ∃ y, g * nx2 = y := ⟨_, rfl⟩
      rw [hy] at y0 y1
      have v5 : IntKind.u64.wrap (g * nx2) = y := by rw [hy, IntKind.wrap_u64]; omega
      have v6 : IntKind.u64.wrap (r * 4294967296) = r * 4294967296 := by rw [IntKind.wrap_u64]; omega
      have v7 : IntKind.u64.wrap p0 = p0 := by rw [IntKind.wrap_u64]; omega
      obtain ⟨z, hz⟩ : ∃ z, r * 4294967296 + p0 = z := ⟨_, rfl⟩
      have v8 : bits .or .u64 (r * 4294967296) p0 = z := by rw [← hz]; exact bits_join .u64 64 (by decide) (fun n h1 h2 => by rw [IntKind.wrap_u64]; omega) 32 _ _ (by omega) (by omega) (by omega) hp00 (by omega) (by omega)
      by_cases hyz : z < y
      ·have hG3 := hG.less (by omega) hp00 (by omega) (by rw [hy, hz]; omega)
       have hG2 := hG3.2
       have hg3 := hG3.1
       have d1 : IntKind.u64.wrap (g - 1) = g - 1 := by rw [IntKind.wrap_u64]; omega
       have d2 : IntKind.u64.wrap (r + tp) = r + tp := by rw [IntKind.wrap_u64]; omega
       by_cases hr2 : 4294967295 < r + tp
       ·have HOV := hide (hG2.over (next := nx2) (p0 := p0) (by omega) hPt (by omega) hn0 hn1 hp00)
        have HG2 := hide hG2
        clear hG hG2 hD hPt hPb
        go_wp2_with fail
        go_meet
        exact ⟨_, _, rfl, rfl, (unhide HOV).1, (unhide HOV).2, unhide HG2, unhide HD2⟩
       ·have hr3 : ¬ (4294967295 : Int) < r + tp := hr2
        have HG2 := hide hG2
        clear hG hG2 hD hPt hPb hr2
        go_wp2_with fail
        exact ⟨⟨_, _, rfl, rfl, by omega, by omega, by omega, unhide HG2, unhide HD2⟩, by simp [intOf]; omega⟩
      ·have hyz2 : ¬ z < y := hyz
       have HGG := hide hG
       have HYZ : Hid (g * nx2 ≤ r * 4294967296 + p0) := by show _ ≤ _; rw [hy, hz]; omega
       have HGB : Hid (g < 4294967296) := by show _ < _; omega
       clear hG hD hPt hPb hy hz hgb hyz
       go_wp2_with fail
       go_meet
       exact ⟨_, _, rfl, rfl, unhide HGB, unhide HYZ, unhide HGG, unhide HD2⟩
   case rest =>
    obtain ⟨g, r, rfl, rfl, hg1, hgt, hG, hD⟩ := hcut
    have hKj : j + mv < K := by have := unhide HKE; have := unhide HME; have := unhide HM2; have := unhide HJ; omega
    have hdg : Wh.win (fun k => us[k]!) j (mv + 1) / (B * 2 ^ s) ≤ g ∧ g ≤ Wh.win (fun k => us[k]!) j (mv + 1) / (B * 2 ^ s) + 1 ∧ 0 ≤ Wh.win (fun k => us[k]!) j (mv + 1) / (B * 2 ^ s) ∧ Wh.win (fun k => us[k]!) j (mv + 1) / (B * 2 ^ s) < 4294967296 := by
     have hq := unhide HQ0
     refine digit_of (K := K) (r := r) (unhide HM2) (fun i hi => hD.wu i (by rw [hD.lu]; exact hi)) hKj (unhide HNL).1 hD.lt ?_ ?_
     ·rw [hq]
      simp only [unhide HX1, unhide HX2, unhide HP1, unhide HTP, unhide HNX, unhide HP0]
      exact hG.gu hg1
     ·rw [hq]
      simp only [unhide HNX, unhide HP0]
      exact hgt
    obtain ⟨q, hqe⟩ : ∃ q, Wh.win (fun k => us[k]!) j (mv + 1) / (B * 2 ^ s) = q := ⟨_, rfl⟩
    rw [hqe] at hdg
    have HQE := hide hqe
    have HDG := hide hdg
    have HG1 := hide (show Wh.W32 g from ⟨hG.t0, hg1⟩)
    have HDD := hide hD
    have HKJ := hide hKj
    clear hg1 hgt hG hD hqe hdg hKj
    go_wp2_with fail
    go_loopw [22, 23, 24] (fun vc vd vi wr => ∃ (i : Nat) (cy d : Int) (xs : List Int), vc = .int .u64 cy ∧ vd = .int .u64 d ∧ vi = .int .i64 (i : Int) ∧ i ≤ mv ∧ RowS w3 wr gu gq K us xs qs j i ∧ Wh.W32 cy ∧ (0 ≤ d ∧ d ≤ 1) ∧ Wh.win (fun k => xs[k]!) j i = Wh.win (fun k => us[k]!) j i - g * Wh.vl (Wh.dig (B * 2 ^ s)) i + Wh.pw i * (cy + d)) (fun _ _ vi _ => mv - (intOf vi).toNat)
    case atStart =>
     have D := unhide HDD
     exact ⟨0, 0, 0, us, rfl, rfl, rfl, Nat.zero_le _, ⟨D.U, D.Q, D.lu, D.wu, fun _ _ => rfl, fun _ _ => rfl⟩, ⟨by decide, by decide⟩, ⟨by decide, by decide⟩, by simp [Wh.win, Wh.vl]⟩
    case round =>
     obtain ⟨i, cy, d, xs, rfl, rfl, rfl, hi, T, hcy, hd, hval⟩ := hrel
     by_cases hlt : i < mv
     ·have f1 : (i : Int) < (mv : Int) := by omega
      have f0 : (0 : Int) ≤ (i : Int) := by omega
      have f3 : IntKind.i64.wrap ((i : Int) + 1) = (i : Int) + 1 := by have := unhide HMN; have := unhide HN6; rw [IntKind.wrap_i64]; omega
      obtain ⟨p, hp⟩ : ∃ p, j + i = p := ⟨_, rfl⟩
      have hpK : p < K := by have := unhide HKJ; omega
      have f4 : IntKind.i64.wrap ((i : Int) + (j : Int)) = (p : Int) := by have := unhide HKE; have := unhide HN6; rw [IntKind.wrap_i64]; omega
      have f5 : (0 : Int) ≤ (p : Int) := by omega
      have f6 : (p : Int) < (K : Int) := by omega
      obtain ⟨_, _, r3⟩ := (unhide HRV).below T.U.bl
      obtain ⟨b2, o2, e9, hb2, hc2⟩ := r3 (by have := unhide HM2; omega)
      injection e9 with e9
      injection e9 with e91 e92
      subst e91 e92
      have cv2 := hc2 i hlt
      obtain ⟨y, hy⟩ : ∃ y, Wh.dig (B * 2 ^ s) i = y := ⟨_, rfl⟩
      rw [hy] at cv2
      have wy : Wh.W32 y := by rw [← hy]; exact Wh.dig_w _ _
      have hpl : p < xs.length := by rw [T.lz]; exact hpK
      have ⟨cx2, fx2⟩ := T.U.cell hpl
      have wx := T.wz p hpl
      have ex := T.hi p (by omega)
      obtain ⟨x, hx⟩ : ∃ x, xs[p]! = x := ⟨_, rfl⟩
      rw [hx] at cx2 wx ex
      have wg := unhide HG1
      obtain ⟨m1, m2, m3, m4, m5⟩ := Wh.ms_fit hcy hd wg wx wy
      obtain ⟨gy, hgy⟩ : ∃ t, g * y = t := ⟨_, rfl⟩
      have gy0 : 0 ≤ gy := by rw [← hgy]; exact Int.mul_nonneg wg.1 wy.1
      rw [hgy] at m1 m2 m3 m4 m5
      obtain ⟨cs, hcs⟩ : ∃ t, cy + gy = t := ⟨_, rfl⟩
      rw [hcs] at m1 m2 m3 m4 m5
      have b1 : IntKind.u64.wrap y = y := by rw [IntKind.wrap_u64]; have := wy.1; have := wy.2; omega
      have b2 : IntKind.u64.wrap (g * y) = gy := by rw [hgy, IntKind.wrap_u64]; have := hcy.1; omega
      have b3 : IntKind.u64.wrap (cy + gy) = cs := by rw [hcs, IntKind.wrap_u64]; omega
      have b4 : IntKind.u64.wrap x = x := by rw [IntKind.wrap_u64]; have := wx.1; have := wx.2; omega
      obtain ⟨l, hl⟩ : ∃ l, cs % 4294967296 = l := ⟨_, rfl⟩
      have b5 : IntKind.u32.wrap cs = l := by rw [IntKind.wrap_u32]; exact hl
      have b6 : IntKind.u64.wrap l = l := by rw [IntKind.wrap_u64]; omega
      obtain ⟨t1', b7⟩ : ∃ t, IntKind.u64.wrap (x - l) = t := ⟨_, rfl⟩
      have b7' := b7
      rw [IntKind.wrap_u64] at b7'
      obtain ⟨t2', b8⟩ : ∃ t, IntKind.u64.wrap (t1' - d) = t := ⟨_, rfl⟩
      have b8' := b8
      rw [IntKind.wrap_u64] at b8'
      rw [hl] at m4 m5
      have fit : (t2' = x - l - d ∧ 0 ≤ x - l - d) ∨ (t2' = x - l - d + 18446744073709551616 ∧ x - l - d < 0) := by have := wx.1; have := wx.2; omega
      obtain ⟨v, hv⟩ : ∃ v, (x - l - d) % 4294967296 = v := ⟨_, rfl⟩
      have b9 : IntKind.u32.wrap t2' = v := by rw [IntKind.wrap_u32]; omega
      have ec : t2' / 9223372036854775808 = -((x - l - d) / 4294967296) := by omega
      have st := Wh.ms_step (g := g) (x := x) (y := y) hval
      rw [hgy, hcs, hl, hv, ← ec] at st
      have T2 := T.step (i := i) (r := v) (by have := unhide HNE; omega) ⟨by omega, by omega⟩
      have ws := win_step (zs := xs) (j := j) (i := i) v (by rw [hp]; exact hpl)
      rw [hp] at T2 ws
      have ex2 : us[p]! = x := by rw [← ex]
      have HST : Hid (Wh.win (fun k => (xs.set p v)[k]!) j (i + 1) = Wh.win (fun k => us[k]!) j (i + 1) - g * Wh.vl (Wh.dig (B * 2 ^ s)) (i + 1) + Wh.pw (i + 1) * (cs / 4294967296 + t2' / 9223372036854775808)) := by
       show _ = _
       rw [ws, Wh.vl_succ, hy, Wh.pw_succ, st]
       have ew : Wh.win (fun k => us[k]!) j (i + 1) = Wh.win (fun k => us[k]!) j i + Wh.pw i * x := by
        unfold Wh.win
        rw [Wh.vl_succ]
        show _ + Wh.pw i * us[j + i]! = _
        rw [hp, ex2]
       rw [ew]
      obtain ⟨W5, hW5⟩ : ∃ W, wr.setCell ⟨gu, p, none⟩ (.int .u32 v) = W := ⟨_, rfl⟩
      rw [hW5] at T2
      have HT2 := hide T2
      have HC := hide m3
      have HDB : Hid (0 ≤ t2' / 9223372036854775808 ∧ t2' / 9223372036854775808 ≤ 1) := ⟨by omega, by omega⟩
      clear T T2 hcy hd hval m1 m2 m3 m4 m5 st ws ex ex2 wx wy wg gy0 hgy hcs hl b7' b8' fit hv ec hc2 hpK hpl
      go_wp2_with fail
      exact ⟨⟨i + 1, _, _, _, rfl, rfl, by go_num, hlt, unhide HT2, unhide HC, unhide HDB, unhide HST⟩, by simp [intOf]; omega⟩
     ·obtain rfl : mv = i := by omega
      have f1 : ¬ (mv : Int) < (mv : Int) := by omega
      have hq := unhide HQ0
      have hpl : q0 < xs.length := by rw [T.lz]; have := unhide HKJ; omega
      have ⟨cx2, fx2⟩ := T.U.cell hpl
      have ex := T.hi q0 (by omega)
      rw [unhide HX1] at ex
      rw [ex] at cx2
      have eB : Wh.vl (Wh.dig (B * 2 ^ s)) mv = B * 2 ^ s := Wh.vl_dig_all (unhide HNL).1.1 (unhide HNL).1.2.1
      have eP : Wh.win (fun k => us[k]!) j (mv + 1) = Wh.win (fun k => us[k]!) j mv + Wh.pw mv * x1 := by
       unfold Wh.win
       rw [Wh.vl_succ]
       show _ + Wh.pw mv * us[j + mv]! = _
       rw [hq, unhide HX1]
      rw [eB] at hval
      have hS := Wh.win_bd (u := fun k => xs[k]!) (K := K) (j := j) (m := mv) (fun k hk => T.wz k (by rw [T.lz]; exact hk)) (by have := unhide HKJ; omega)
      have hz : Wh.win (fun k => xs[k]!) j mv + Wh.pw mv * (x1 - cy - d) = Wh.win (fun k => us[k]!) j (mv + 1) - g * (B * 2 ^ s) := by rw [eP]; exact top_eq hval
      have hBp := (unhide HNL).1.pos (by have := unhide HM2; omega)
      have htop := Wh.ms_top hS.1 hS.2 hz (unhide HQE).symm hBp (Int.le_of_lt (unhide HNL).1.2.1) (unhide HDG).1 (unhide HDG).2.1
      have wx := unhide HW1
      have wg := unhide HG1
      have jM : (j : Int) < (M : Int) := by have := unhide HJ; omega
      have ij : IntKind.i64.wrap ((j : Int) - 1) = (j : Int) - 1 := by have := unhide HN6; have := unhide HKE; have := unhide HME; have := unhide HJ; rw [IntKind.wrap_i64]; omega
      have hjq : j < qs.length := by rw [(unhide HDD).lq]; have := unhide HJ; omega
      have hne : gu ≠ gq := by have := unhide HNE; omega
      obtain ⟨t1, b7⟩ : ∃ t, IntKind.u64.wrap (x1 - cy) = t := ⟨_, rfl⟩
      have b7' := b7
      rw [IntKind.wrap_u64] at b7'
      rcases htop with ⟨z0, egq, eS⟩ | ⟨z0, egq, eS⟩
      ·have b8 : IntKind.u64.wrap (t1 - d) = 0 := by rw [IntKind.wrap_u64]; have := wx.1; have := wx.2; have := hcy.1; have := hcy.2; omega
       have ug : IntKind.u32.wrap g = g := by rw [IntKind.wrap_u32]; have := wg.1; have := wg.2; omega
       have U2 := T.U.set q0 0
       have Q2 := T.Q.other T.U (Ne.symm hne) q0 0
       obtain ⟨W5, hW5⟩ : ∃ W, wr.setCell ⟨gu, q0, none⟩ (.int .u32 0) = W := ⟨_, rfl⟩
       rw [hW5] at U2 Q2
       have ⟨cq2, fq2⟩ := Q2.cell hjq
       have Q3 := Q2.set j g
       have U3 := U2.other Q2 hne j g
       obtain ⟨W6, hW6⟩ : ∃ W, W5.setCell ⟨gq, j, none⟩ (.int .u32 g) = W := ⟨_, rfl⟩
       rw [hW6] at Q3 U3
       have ws := win_same (zs := xs) (j := j) (m := mv) 0
       rw [hq] at ws
       have HN : Hid (DivS w3 W6 gu gq K M (xs.set q0 0) (qs.set j g) (A * 2 ^ s) (B * 2 ^ s) j) :=
        (unhide HDD).next (by have := unhide HJ; omega) (by have := unhide HKJ; omega) (unhide HNL).1 (by have := unhide HM2; omega) U3 Q3 (by rw [List.length_set]; exact T.lz) (w_set T.wz ⟨by decide, by decide⟩)
         (fun k hk => by rw [get_set (by omega)]; exact T.lo k hk) (fun k hk => by rw [get_set (by omega)]; exact T.hi k (by omega)) (by rw [hq]; simp [hpl]) (by rw [egq]; exact (unhide HQE).symm) wg (by rw [ws, eS, egq])
       clear T U2 Q2 Q3 U3 ws hcy hd hval hS hz eP eB ex z0 egq eS wx wg b7' hpl hq
       go_wp2_with fail
       exact ⟨⟨j, _, _, rfl, by have := unhide HJ; omega, unhide HN⟩, by simp [intOf]⟩
      ·obtain ⟨m1, hm1⟩ : ∃ m : Int, 4294967295 = m := ⟨_, rfl⟩
       have b8 : IntKind.u64.wrap (t1 - d) = 18446744073709551615 := by rw [IntKind.wrap_u64]; have := wx.1; have := wx.2; have := hcy.1; have := hcy.2; omega
       have b9 : IntKind.u32.wrap 18446744073709551615 = m1 := by rw [IntKind.wrap_u32, ← hm1]; decide
       have ug0 : IntKind.u64.wrap (g - 1) = q := by rw [IntKind.wrap_u64]; have := (unhide HDG).2.2.1; have := wg.1; have := wg.2; omega
       have ug : IntKind.u32.wrap q = q := by rw [IntKind.wrap_u32]; have := (unhide HDG).2.2; omega
       obtain ⟨ys, hys⟩ : ∃ y, xs.set q0 m1 = y := ⟨_, rfl⟩
       have U2 := T.U.set q0 m1
       have Q2 := T.Q.other T.U (Ne.symm hne) q0 m1
       obtain ⟨W5, hW5⟩ : ∃ W, wr.setCell ⟨gu, q0, none⟩ (.int .u32 m1) = W := ⟨_, rfl⟩
       rw [hW5] at U2 Q2
       rw [hys] at U2
       have ws := win_same (zs := xs) (j := j) (m := mv) m1
       rw [hq, hys] at ws
       have lys : ys.length = K := by rw [← hys, List.length_set]; exact T.lz
       have wys : ∀ k, k < ys.length → Wh.W32 ys[k]! := by rw [← hys]; exact w_set T.wz ⟨by omega, by omega⟩
       have HYS : Hid (RowS w3 W5 gu gq K ys ys qs j 0) := ⟨U2, Q2, lys, wys, fun _ _ => rfl, fun _ _ => rfl⟩
       have HYL : Hid (∀ k, k < j → ys[k]! = us[k]!) := fun k hk => by rw [← hys, get_set (by omega)]; exact T.lo k hk
       have HYH : Hid (∀ k, j + mv < k → ys[k]! = us[k]!) := fun k hk => by rw [← hys, get_set (by omega)]; exact T.hi k (by omega)
       have HYT : Hid (ys[q0]! = m1) := by show _ = _; rw [← hys]; simp [hpl]
       have HES : Hid (Wh.win (fun k => ys[k]!) j mv + B * 2 ^ s - Wh.pw mv = Wh.win (fun k => us[k]!) j (mv + 1) - q * (B * 2 ^ s)) := by show _ = _; rw [ws]; exact eS
       have HM1 := hide hm1
       have HEB := hide eB
       have HR0 : Hid (0 ≤ Wh.win (fun k => us[k]!) j (mv + 1) - q * (B * 2 ^ s)) := by
        show 0 ≤ _
        have e := Int.emod_add_mul_ediv (Wh.win (fun k => us[k]!) j (mv + 1)) (B * 2 ^ s)
        have m0 := Int.emod_nonneg (Wh.win (fun k => us[k]!) j (mv + 1)) (b := B * 2 ^ s) (by omega)
        rw [unhide HQE, Int.mul_comm (B * 2 ^ s) q] at e
        omega
       clear T U2 Q2 ws hcy hd hval hS hz eP eB ex z0 egq eS wx wg b7' hpl hq hys lys wys hm1
       go_wp2_with fail
       go_loopw [22, 27] (fun vc vi wr => ∃ (i : Nat) (cy : Int) (zs : List Int), vc = .int .u64 cy ∧ vi = .int .i64 (i : Int) ∧ i ≤ mv ∧ RowS w3 wr gu gq K ys zs qs j i ∧ (0 ≤ cy ∧ cy ≤ 1) ∧ Wh.win (fun k => zs[k]!) j i + Wh.pw i * cy = Wh.win (fun k => ys[k]!) j i + Wh.vl (Wh.dig (B * 2 ^ s)) i) (fun _ vi _ => mv - (intOf vi).toNat)
       case atStart => exact ⟨0, 0, ys, rfl, rfl, Nat.zero_le _, unhide HYS, ⟨by decide, by decide⟩, by simp [Wh.win, Wh.vl]⟩
       case round =>
        obtain ⟨i, c2, zs, rfl, rfl, hi, T, hcy, hval⟩ := hrel
        by_cases hlt : i < mv
        ·have f1 : (i : Int) < (mv : Int) := by omega
         have f0 : (0 : Int) ≤ (i : Int) := by omega
         have f3 : IntKind.i64.wrap ((i : Int) + 1) = (i : Int) + 1 := by have := unhide HMN; have := unhide HN6; rw [IntKind.wrap_i64]; omega
         obtain ⟨p, hp⟩ : ∃ p, j + i = p := ⟨_, rfl⟩
         have hpK : p < K := by have := unhide HKJ; omega
         have f4 : IntKind.i64.wrap ((i : Int) + (j : Int)) = (p : Int) := by have := unhide HKE; have := unhide HN6; rw [IntKind.wrap_i64]; omega
         have f5 : (0 : Int) ≤ (p : Int) := by omega
         have f6 : (p : Int) < (K : Int) := by omega
         obtain ⟨_, _, r3⟩ := (unhide HRV).below T.U.bl
         obtain ⟨b2, o2, e9, hb2, hc2⟩ := r3 (by have := unhide HM2; omega)
         injection e9 with e9
         injection e9 with e91 e92
         subst e91 e92
         have cv2 := hc2 i hlt
         obtain ⟨y, hy⟩ : ∃ y, Wh.dig (B * 2 ^ s) i = y := ⟨_, rfl⟩
         rw [hy] at cv2
         have wy : Wh.W32 y := by rw [← hy]; exact Wh.dig_w _ _
         have hpl : p < zs.length := by rw [T.lz]; exact hpK
         have ⟨cx2, fx2⟩ := T.U.cell hpl
         have wx := T.wz p hpl
         have ex := T.hi p (by omega)
         obtain ⟨x, hx⟩ : ∃ x, zs[p]! = x := ⟨_, rfl⟩
         rw [hx] at cx2 wx ex
         have b1 : IntKind.u64.wrap y = y := by rw [IntKind.wrap_u64]; have := wy.1; have := wy.2; omega
         have b4 : IntKind.u64.wrap x = x := by rw [IntKind.wrap_u64]; have := wx.1; have := wx.2; omega
         obtain ⟨xy, hxy⟩ : ∃ t, x + y = t := ⟨_, rfl⟩
         have b2 : IntKind.u64.wrap (x + y) = xy := by rw [hxy, IntKind.wrap_u64]; have := wx.1; have := wx.2; have := wy.1; have := wy.2; omega
         obtain ⟨v, hv⟩ : ∃ t, c2 + xy = t := ⟨_, rfl⟩
         have fit : 0 ≤ v ∧ v < 8589934592 := by have := wx.1; have := wx.2; have := wy.1; have := wy.2; omega
         have b3 : IntKind.u64.wrap (c2 + xy) = v := by rw [hv, IntKind.wrap_u64]; omega
         obtain ⟨l, hl⟩ : ∃ l, v % 4294967296 = l := ⟨_, rfl⟩
         have b5 : IntKind.u32.wrap v = l := by rw [IntKind.wrap_u32]; exact hl
         have ev : c2 + x + y = v := by omega
         have st := add32_step (x := x) (y := y) hval
         rw [ev, hl] at st
         have ws := win_step (zs := zs) (j := j) (i := i) l (by rw [hp]; exact hpl)
         rw [hp] at ws
         have ew : Wh.win (fun k => ys[k]!) j (i + 1) = Wh.win (fun k => ys[k]!) j i + Wh.pw i * x := by
          unfold Wh.win
          rw [Wh.vl_succ]
          show _ + Wh.pw i * ys[j + i]! = _
          rw [hp, ← ex]
         have HST : Hid (Wh.win (fun k => (zs.set p l)[k]!) j (i + 1) + Wh.pw (i + 1) * (v / 4294967296) = Wh.win (fun k => ys[k]!) j (i + 1) + Wh.vl (Wh.dig (B * 2 ^ s)) (i + 1)) := by
          show _ = _
          rw [ws, ew, Wh.vl_succ, hy, Wh.pw_succ, st]
          omega
         have HT := hide T
         have HWL : Hid (Wh.W32 l) := ⟨by omega, by omega⟩
         have HVB : Hid (0 ≤ v / 4294967296 ∧ v / 4294967296 ≤ 1) := ⟨by omega, by omega⟩
         have HP := hide hp
         clear T hcy hval st ws ew ev ex wx wy hc2 hpK hpl hxy hv fit hl hp
         go_wp2_with fail
         go_quiet (fail)
         have T2 := ((unhide HT).drew nq).step (i := i) (r := l) (by have := unhide HNE; omega) (unhide HWL)
         rw [unhide HP] at T2
         obtain ⟨W7, hW7⟩ : ∃ W, (wr.drewN nq).setCell ⟨gu, p, none⟩ (.int .u32 l) = W := ⟨_, rfl⟩
         rw [hW7] at T2
         have HT2 := hide T2
         clear T2
         go_wp2_with fail
         exact ⟨⟨i + 1, _, _, rfl, by go_num, hlt, unhide HT2, unhide HVB, unhide HST⟩, by simp [intOf]; omega⟩
        ·obtain rfl : mv = i := by omega
         have g1 : ¬ (mv : Int) < (mv : Int) := by omega
         have hq := unhide HQ0
         have hpl : q0 < zs.length := by rw [T.lz]; have := unhide HKJ; omega
         have ⟨cx2, fx2⟩ := T.U.cell hpl
         have ex := T.hi q0 (by omega)
         rw [ex, unhide HYT] at cx2
         have hS := Wh.win_bd (u := fun k => zs[k]!) (K := K) (j := j) (m := mv) (fun k hk => T.wz k (by rw [T.lz]; exact hk)) (by have := unhide HKJ; omega)
         rw [unhide HEB] at hval
         have ab := Wh.ab_top hS.2 hval (unhide HES) (unhide HR0) hcy
         have uc : IntKind.u32.wrap c2 = c2 := by rw [IntKind.wrap_u32]; omega
         have uz : IntKind.u32.wrap (m1 + c2) = 0 := by rw [IntKind.wrap_u32]; have := unhide HM1; omega
         have U2 := T.U.set q0 0
         have Q2 := T.Q.other T.U (Ne.symm hne) q0 0
         obtain ⟨W7, hW7⟩ : ∃ W, wr.setCell ⟨gu, q0, none⟩ (.int .u32 0) = W := ⟨_, rfl⟩
         rw [hW7] at U2 Q2
         have ⟨cq2, fq2⟩ := Q2.cell hjq
         have Q3 := Q2.set j q
         have U3 := U2.other Q2 hne j q
         obtain ⟨W8, hW8⟩ : ∃ W, W7.setCell ⟨gq, j, none⟩ (.int .u32 q) = W := ⟨_, rfl⟩
         rw [hW8] at Q3 U3
         have ws := win_same (zs := zs) (j := j) (m := mv) 0
         rw [hq] at ws
         have HN : Hid (DivS w3 W8 gu gq K M (zs.set q0 0) (qs.set j q) (A * 2 ^ s) (B * 2 ^ s) j) :=
          (unhide HDD).next (by have := unhide HJ; omega) (by have := unhide HKJ; omega) (unhide HNL).1 (by have := unhide HM2; omega) U3 Q3 (by rw [List.length_set]; exact T.lz) (w_set T.wz ⟨by decide, by decide⟩)
           (fun k hk => by rw [get_set (by omega), T.lo k hk]; exact unhide HYL k hk) (fun k hk => by rw [get_set (by omega), T.hi k (by omega)]; exact unhide HYH k hk) (by rw [hq]; simp [hpl]) (unhide HQE).symm ⟨(unhide HDG).2.2.1, (unhide HDG).2.2.2⟩ (by rw [ws]; exact ab.2)
         clear T U2 Q2 Q3 U3 ws hcy hval hS ab ex hpl hq
         go_wp2_with fail
         exact ⟨⟨j, _, _, rfl, by have := unhide HJ; omega, unhide HN⟩, by simp [intOf]⟩
end Go.Proofs.YtcelbgleajpenaaGreatDoor
