/- RenewLeft: the walk. -/
import Derived.Test.YtcelbgleajpenaaGreatDoorRZ4z
namespace Go.Proofs.YtcelbgleajpenaaGreatDoor
open Go.RowKit Go.Sort Go.Shelf

theorem RList.drop {w : World} {b o c k n : Nat} {qs : List Rat} (h : RList w (.slice (some ⟨b, o, none⟩) qs.length c) qs) (hn : qs.length = n) (hk : k < n) : RList w (.slice (some ⟨b, o + k, none⟩) (n - k) (c - k)) (qs.drop k) := by
  obtain ⟨a', c', e, h1, h2, h3⟩ := h
  injection e with e1 e2 e3
  subst e1 e3
  have hl : (qs.drop k).length = n - k := by rw [List.length_drop, hn]
  refine ⟨_, c - k, by rw [hl], by omega, by omega, fun hp => ?_⟩
  obtain ⟨b', o', ea, hlt, hc⟩ := h3 (by omega)
  injection ea with ea
  injection ea with ea eb
  subst ea eb
  refine ⟨b, o + k, rfl, hlt, fun j hj => ?_⟩
  obtain ⟨g, e1, e2⟩ := hc (k + j) (by omega)
  refine ⟨g, by rw [Nat.add_assoc]; exact e1, ?_⟩
  have : (qs.drop k)[j]! = qs[k + j]! := by
    rw [List.getElem!_eq_getElem?_getD, List.getElem!_eq_getElem?_getD, List.getElem?_drop]
  rw [this]; exact e2
theorem qsum_drop (L : List Rat) (k : Nat) : ∀ d, qsum (L.drop k) d = Bth.ps (xq L) (k + d) - Bth.ps (xq L) k
  | 0 => by show (0 : Rat) = Bth.ps (xq L) (k + 0) - _; rw [Nat.add_zero]; grind
  | d + 1 => by
    show qsum (L.drop k) d + (L.drop k)[d]! = (Bth.ps (xq L) (k + d) + xq L (k + d)) - _
    rw [qsum_drop L k d]
    have : (L.drop k)[d]! = xq L (k + d) := by
      show _ = L[k + d]!
      rw [List.getElem!_eq_getElem?_getD, List.getElem!_eq_getElem?_getD, List.getElem?_drop]
    rw [this]; grind
theorem xq_take (qs : List Rat) {m j : Nat} (h : j < m) : xq (qs.take m) j = xq qs j := by
  show (qs.take m)[j]! = qs[j]!
  rw [List.getElem!_eq_getElem?_getD, List.getElem!_eq_getElem?_getD, List.getElem?_take_of_lt h]
def lfz (qs : List Rat) : List Rat := row (fun n => Rnw.sv (xq qs) n / Bth.ps (Rnw.sv (xq qs)) (gst qs)) (gst qs)
theorem lfz_len (qs : List Rat) : (lfz qs).length = gst qs := row_length _ _
theorem lfz_get {qs : List Rat} {j : Nat} (h : j < gst qs) : (lfz qs)[j]! = Rnw.sv (xq qs) j / Bth.ps (Rnw.sv (xq qs)) (gst qs) := row_get h
theorem lfz_is {qs : List Rat} (hk : rnc qs = 0) {m i : Nat} (hm : gst qs + 1 = m) (hi : i < gst qs) : qsum ((qs.take m).drop (i + 1)) (m - (i + 1)) / wsum (qs.take m) (fun j => ((j ^ 1 : Nat) : Int)) m = (lfz qs)[i]! := by
  obtain ⟨hA, ht, hl1, hl2⟩ := rnc_age hk
  rw [lfz_get hi, qsum_drop, show i + 1 + (m - (i + 1)) = m by omega]
  have e1 : Bth.ps (xq (qs.take m)) m = 1 := by
    rw [Bth.ps_congr m (fun j hj => xq_take qs hj), ← hm]; exact hA.sum
  have e2 : Bth.ps (xq (qs.take m)) (i + 1) = Bth.ps (xq qs) (i + 1) := Bth.ps_congr _ (fun j hj => xq_take qs (by omega))
  have e3 : wsum (qs.take m) (fun j => ((j ^ 1 : Nat) : Int)) m = Bth.ps (Rnw.sv (xq qs)) (gst qs) := by
    rw [wsum_ps, hA.mean, hm]
    exact Bth.ps_congr _ (fun j hj => by rw [xq_take qs hj, Nat.pow_one])
  rw [e1, e2, e3]
  rfl
theorem lfz_ne {qs : List Rat} (hk : rnc qs = 0) {m : Nat} (hm : gst qs + 1 = m) : (wsum (qs.take m) (fun j => ((j ^ 1 : Nat) : Int)) m).num ≠ 0 := fun e => by
  obtain ⟨hA, ht, hl1, hl2⟩ := rnc_age hk
  have e3 : wsum (qs.take m) (fun j => ((j ^ 1 : Nat) : Int)) m = Bth.ps (Rnw.sv (xq qs)) (gst qs) := by
    rw [wsum_ps, hA.mean, hm]
    exact Bth.ps_congr _ (fun j hj => by rw [xq_take qs hj, Nat.pow_one])
  rw [e3] at e
  exact hA.ne hA.g1 (Rat.num_eq_zero.1 e)
set_option maxHeartbeats 16000000 in
set_option maxRecDepth 100000 in
set_option linter.unusedSimpArgs false in
theorem refLife_any (v : Value) (qs : List Rat) (J : Nat) (w : World) (h : RList w v qs) (hq : ∀ j, j < qs.length → RS qs[j]! J) (hJ : qs.length * (J + 1) + 1 + J ≤ 399999) :
    Calls Tryz.prog 27 #[v] w fun e w' => e = .returned (.int .i64 (rnc qs)) ∧ Below w.heap.size w w' := by
  have HC := hide (refLawCheck_any v qs J w h hq hJ)
  obtain ⟨a, c, rfl, h1, h2, h3⟩ := id h
  have HRN : Hid (rnc qs = if chk qs = 0 then (if 0 < (xq qs 0).num then 11 else 0) else chk qs) := rfl
  obtain ⟨rr, hrr⟩ : ∃ r, rnc qs = r := ⟨_, rfl⟩
  rw [hrr] at HRN ⊢
  by_cases hc : chk qs = 0
  · obtain ⟨p1, p2, _, _⟩ := chk_zero hc
    rw [hc] at HC HRN
    obtain ⟨b, o, rfl, hlt, hcs⟩ := h3 p1
    obtain ⟨x, k0, kx⟩ := hcs 0 p1
    rw [Nat.add_zero] at k0
    have HR2 : Hid (rr = if 0 < (xq qs 0).num then 11 else 0) := by have := unhide HRN; rw [if_pos rfl] at this; exact this
    have HS := hide (fun (W : World) (hW : Below w.heap.size w W) => signz_any x 0 qs[0]! W (kx.below hW))
    have HK : Hid (∀ W, Below w.heap.size w W → W.cell? ⟨b, o, none⟩ = some (.pointer (some ⟨x, 0, none⟩))) := fun W hW => by rw [hW.cell (p := ⟨b, o, none⟩) hlt]; exact k0
    obtain ⟨q, hq'⟩ : ∃ q, qs[0]! = q := ⟨_, rfl⟩
    have hq2 : xq qs 0 = q := hq'
    rw [hq'] at HS
    rw [hq2] at HR2
    obtain ⟨n, hn⟩ : ∃ n, qs.length = n := ⟨_, rfl⟩
    rw [hn] at HC p1 p2 h1 ⊢
    have i0 : (0 : Int) < (n : Int) := by omega
    by_cases hneg : 0 < q.num
    · have hr11 : rr = 11 := by rw [unhide HR2, if_pos hneg]
      have hsn : q.num.sign = 1 := Int.sign_eq_one_of_pos hneg
      rw [hsn] at HS
      rw [hr11]
      clear h hq hJ hrr hc hcs kx HRN HR2 hq' hq2 hn hneg hsn hr11 k0
      go_enter Tryz.func27, Tryz.ntmps27
      go_wp2_with fail
      refine (unhide HC).mono ?_
      rintro e w1 ⟨rfl, hb1⟩
      have HS1 := hide (unhide HS w1 hb1)
      have k0 := unhide HK w1 hb1
      have HB1 := hide hb1
      clear hb1 HC HS HK
      go_wp2_with fail
      refine (unhide HS1).mono ?_
      rintro e w2 ⟨rfl, hw⟩
      have hw' := hw.symm
      subst hw'
      clear hw
      go_wp2
      go_ret
      exact ⟨rfl, unhide HB1⟩
    · have hr0 : rr = 0 := by rw [unhide HR2, if_neg hneg]
      obtain ⟨z, hz⟩ : ∃ z, q.num.sign = z := ⟨_, rfl⟩
      have hz1 : ¬ 0 < z := fun h => hneg (by
        rw [← hz] at h
        exact Int.sign_pos_iff.1 h)
      rw [hz] at HS
      rw [hr0]
      clear h hq hJ hrr hc hcs kx HRN HR2 hq' hq2 hn hneg hz hr0 k0
      go_enter Tryz.func27, Tryz.ntmps27
      go_wp2_with fail
      refine (unhide HC).mono ?_
      rintro e w1 ⟨rfl, hb1⟩
      have HS1 := hide (unhide HS w1 hb1)
      have k0 := unhide HK w1 hb1
      have HB1 := hide hb1
      clear hb1 HC HS HK
      go_wp2_with fail
      refine (unhide HS1).mono ?_
      rintro e w2 ⟨rfl, hw⟩
      have hw' := hw.symm
      subst hw'
      clear hw
      go_wp2
      go_ret
      exact ⟨rfl, unhide HB1⟩
  · have hr : rr = chk qs := by rw [unhide HRN, if_neg hc]
    rw [hr]
    have kz : (chk qs != 0) = true := by simpa using hc
    have kz2 : ¬ chk qs = 0 := hc
    generalize chk qs = k at *
    generalize qs.length = n at *
    clear h hq hJ hrr hc hr HRN h3
    go_enter Tryz.func27, Tryz.ntmps27
    go_wp2_with fail
    refine (unhide HC).mono ?_
    rintro e w1 ⟨rfl, hb1⟩
    have HB1 := hide hb1
    clear hb1 HC
    go_wp2
    go_ret
    exact ⟨rfl, unhide HB1⟩

set_option maxHeartbeats 16000000 in
set_option maxRecDepth 100000 in
set_option linter.unusedSimpArgs false in
theorem refLeft_any (v : Value) (qs : List Rat) (w : World) (h : RList w v qs) (hq : ∀ j, j < qs.length → RS qs[j]! 1) (hk : rnc qs = 0) :
    Calls Tryz.prog 33 #[v] w fun e w' => ∃ u, e = .returned u ∧ RList w' u (lfz qs) ∧ Below w.heap.size w w' := by
  obtain ⟨hA, ht, hl1, hl2⟩ := rnc_age hk
  have hg1 := hA.g1
  have HT := hide (refTrim_any v qs w h (by omega) (by omega))
  rw [← ht] at HT
  obtain ⟨m, hm⟩ : ∃ m, gst qs + 1 = m := ⟨_, rfl⟩
  have HIS : Hid (∀ i, i < gst qs → qsum ((qs.take m).drop (i + 1)) (m - (i + 1)) / wsum (qs.take m) (fun j => ((j ^ 1 : Nat) : Int)) m = (lfz qs)[i]!) := fun i hi => lfz_is hk hm hi
  have HNZ := hide (lfz_ne hk hm)
  rw [hm] at HT hl1
  have htl : (qs.take m).length = m := by rw [List.length_take]; omega
  have HRS : Hid (∀ j, j < (qs.take m).length → RS (qs.take m)[j]! 1) := fun j hj => by
    rw [htl] at hj
    have : (qs.take m)[j]! = qs[j]! := xq_take qs hj
    rw [this]; exact hq j (by omega)
  have hlz := lfz_len qs
  obtain ⟨g, hg⟩ : ∃ g, gst qs = g := ⟨_, rfl⟩
  rw [hg] at HIS hg1 hm hlz
  obtain ⟨tq, htq⟩ : ∃ l, qs.take m = l := ⟨_, rfl⟩
  rw [htq] at HT HIS HNZ htl HRS
  obtain ⟨lz, hlz'⟩ : ∃ l, lfz qs = l := ⟨_, rfl⟩
  rw [hlz'] at HIS hlz ⊢
  obtain ⟨ti, hi, hz0, hz1, hz2⟩ := info_parts Tryz.infoP
  have HI := hide hi
  have HZ := hide hz0
  have HTL := hide htl
  have HLZ := hide hlz
  have hm101 : m ≤ 101 := by omega
  have jm : (m : Int) - 1 = (g : Int) := by omega
  have HWR : Hid (RS (wsum tq (fun j => ((j ^ 1 : Nat) : Int)) m) 400) := by
    show RS _ _
    rw [← htl]
    exact (wsum_RS (F := fun j => ((j ^ 1 : Nat) : Int)) (unhide HRS) (fun j hj => pow_I64 (by omega) (by decide)) _ (Nat.le_refl _)).mono (by omega)
  have HMO : Hid (∀ W u, RList W u tq → Calls Tryz.prog 75 #[u, .int .i64 1] W (NewsZ W (wsum tq (fun j => ((j ^ 1 : Nat) : Int)) m))) := fun W u hu => by
    have := refMoment_any u tq 1 W hu (unhide HRS) (by omega) (by decide)
    rw [htl] at this
    exact this
  obtain ⟨wm, hwm⟩ : ∃ q, wsum tq (fun j => ((j ^ 1 : Nat) : Int)) m = q := ⟨_, rfl⟩
  rw [hwm] at HIS HNZ HWR HMO
  obtain ⟨a, c, rfl, q1, q2, -⟩ := h
  obtain ⟨nq, hnq⟩ : ∃ n, qs.length = n := ⟨_, rfl⟩
  rw [hnq] at q1 ⊢
  rw [hnq] at HT
  clear hq hk hA ht hl1 hl2 htl hlz hg htq hlz' hwm hi hz0 hnq
  go_enter Tryz.func33, Tryz.ntmps33
  go_wp2_with fail
  refine (unhide HT).mono ?_
  rintro e w1 ⟨v1, rfl, hl1, hb1⟩
  have HB1 := hide hb1
  have HL1 := hide hl1
  obtain ⟨a1, c1, rfl, m1, m2, m3⟩ := id hl1
  rw [unhide HTL] at m1 m3 HL1 ⊢
  obtain ⟨bx, ox, rfl, hblt, hcs⟩ := m3 (by omega)
  clear hl1 hb1 HT m3 hcs
  go_wp2_with fail
  go_loopw [3, 4] (fun vo vi wr => ∃ (i : Nat) (gs : List Nat), vi = .int .i64 i ∧ i ≤ g ∧ gs.length = i ∧ PAt w1 wr w1.heap.size vo gs lz) (fun _ vi _ => g - (intOf vi).toNat)
  case atStart => exact ⟨0, [], rfl, Nat.zero_le _, rfl, PAt.start w1 _⟩
  case round =>
    obtain ⟨i, gs, rfl, hi, hts, T⟩ := hrel
    by_cases hlt : i < g
    · have j1 : (i : Int) < (g : Int) := by omega
      have j0 : (0 : Int) ≤ (i : Int) := by omega
      obtain ⟨k, hk⟩ : ∃ k, i + 1 = k := ⟨_, rfl⟩
      have jk : (i : Int) + 1 = (k : Int) := by omega
      have jw : IntKind.i64.wrap (k : Int) = (k : Int) := by rw [IntKind.wrap_i64]; omega
      have k0 : (0 : Int) ≤ (k : Int) := by omega
      have k1 : (k : Int) ≤ (m : Int) := by omega
      have k2 : k ≤ m := by omega
      have k3 : ¬ (c1 - k = 0) := by omega
      have HIV := hide (unhide HIS i hlt)
      rw [hk] at HIV
      have hL : RList wr (.slice (some ⟨bx, ox, none⟩) m c1) tq := (unhide HL1).below T.bl
      have hL' : RList wr (.slice (some ⟨bx, ox, none⟩) tq.length c1) tq := by rw [unhide HTL]; exact hL
      have hD := RList.drop (k := k) hL' (unhide HTL) (by omega)
      have hdl : (tq.drop k).length = m - k := by rw [List.length_drop, unhide HTL]
      have hrd : ∀ j, j < (tq.drop k).length → RS (tq.drop k)[j]! 1 := fun j hj => by
        have : (tq.drop k)[j]! = tq[k + j]! := by rw [List.getElem!_eq_getElem?_getD, List.getElem!_eq_getElem?_getD, List.getElem?_drop]
        rw [this]
        exact unhide HRS (k + j) (by rw [unhide HTL]; omega)
      have hsu := refSum_any _ (tq.drop k) 1 wr hD hrd (by omega)
      rw [hdl] at hsu
      have HSU := hide hsu
      have HSR : Hid (RS (qsum (tq.drop k) (m - k)) 400) := by
        show RS _ _
        exact (qsum_RS hrd (m - k) (by omega)).mono (by omega)
      obtain ⟨sq, hsq⟩ : ∃ q, qsum (tq.drop k) (m - k) = q := ⟨_, rfl⟩
      rw [hsq] at HSU HSR HIV
      have HT0 := hide T
      have HTS := hide hts
      have HLT := hide hlt
      clear T hts hlt hL hL' hD hdl hrd hsu hsq hk
      go_wp2_with fail
      refine (unhide HSU).mono ?_
      rintro e w3 ⟨b3, rfl, -, z3, hb3⟩
      have T3 := (unhide HT0).keep hb3
      have HM3 := hide (unhide HMO w3 _ ((unhide HL1).below T3.bl))
      have HT3 := hide T3
      have HZ3 := hide z3
      clear T3 z3 hb3 HSU HT0
      go_wp2_with fail
      refine (unhide HM3).mono ?_
      rintro e w4 ⟨b4, rfl, -, z4, hb4⟩
      have HT4 := hide ((unhide HT3).keep hb4)
      have HQ4 := hide (refQuot_any b3 b4 400 400 sq wm w4 ((unhide HZ3).below hb4) z4 (unhide HSR) (unhide HWR) (by decide) (unhide HNZ))
      rw [unhide HIV] at HQ4
      clear z4 hb4 HM3 HT3 HZ3
      go_wp2_with fail
      refine (unhide HQ4).mono ?_
      rintro e w5 ⟨bn, rfl, -, hr2, hb2⟩
      rw [← unhide HTS] at hr2
      have T2 := ((unhide HT4).keep hb2).keep (abelow w5 (.cells #[.pointer (some ⟨bn, 0, none⟩)] 31))
      have hr3 := hr2.below (abelow w5 (.cells #[.pointer (some ⟨bn, 0, none⟩)] 31))
      have hlen8 : (gs.length + 1) * 8 ≤ 140737488355328 := by have := unhide HTS; omega
      have hlen63 : gs.length + 1 ≤ maxLen := by have := unhide HTS; unfold maxLen; omega
      have hbase : w1.heap.size ≤ (w5.alloc (.cells #[.pointer (some ⟨bn, 0, none⟩)] 31)).heap.size := T2.bl.size
      have hsz2 : (w5.alloc (.cells #[.pointer (some ⟨bn, 0, none⟩)] 31)).heap.size = w5.heap.size + 1 := by rw [alloc_heap, Array.size_push]
      have HT2 := hide T2
      have HR3 := hide hr3
      have HBA := hide hbase
      have HSZ := hide hsz2
      have HL8 := hide hlen8
      have HL63 := hide hlen63
      clear T2 hr3 hr2 hbase hsz2 hlen8 hlen63 hb2 HT4 HQ4
      go_wp2_with (at_builtin; go_loud (refine wpList_append_ptr _ rfl _ _ _ rfl w1.heap.size 31 ti 8 Tryz.underlying29 (unhide HI) (unhide HZ) hz1 hz2 _ gs.length (ptrs gs) rfl (unhide HT2).own (unhide HT2).no ⟨w5.heap.size, 0, none⟩ 1 1 [.pointer (some ⟨bn, 0, none⟩)] rfl rfl (news_ptr w5 bn _) (one_ptr bn) (is_ptr bn) (by decide) (unhide HL63) (unhide HL8) (unhide HBA) (w5.heap.size + 1) (unhide HSZ) ?_; intro g cap w4 hown4 hgrow hat hlt4 hno4))
      have FIN := hide ((unhide HT2).push (unhide HR3) hown4 hgrow hno4 (unhide HBA))
      clear hown4 hgrow hat hno4 HT2 HR3
      go_wp2_with fail
      exact ⟨⟨i + 1, gs ++ [bn], by go_num, unhide HLT, by rw [List.length_append, unhide HTS]; rfl, unhide FIN⟩, by have := unhide HLT; simp [intOf]; omega⟩
    · obtain rfl : i = g := by omega
      have j1 : ¬ (i : Int) < (i : Int) := by omega
      have L := rlist_of T.own (by rw [hts]; exact (unhide HLZ).symm) T.rat
      have HB := hide (below_step (unhide HB1) T.bl)
      have HL := hide L
      clear T L
      go_wp2
      (try simp only [Exit.inBlock, Exit.then])
      exact bodyPost_ret (v := u3) (by simp [results, Tryz.results33, go_sem]) rfl ⟨_, rfl, unhide HL, unhide HB⟩

end Go.Proofs.YtcelbgleajpenaaGreatDoor
namespace Go.Proofs.YtcelbgleajpenaaGreatDoor
open Go.RowKit Go.Sort Go.Shelf

theorem lfz_RS {qs : List Rat} {J JJ : Nat} (hk : rnc qs = 0) (hq : ∀ j, j < qs.length → RS qs[j]! J) (hJJ : 102 * (101 * (J + 1) + 5) + J ≤ JJ) : ∀ j, j < (lfz qs).length → RS (lfz qs)[j]! (JJ + JJ) := fun j hj => by
  obtain ⟨hA, ht, hl1, hl2⟩ := rnc_age hk
  rw [lfz_len] at hj
  rw [lfz_get hj]
  have m1 := Nat.mul_le_mul_right (J + 1) hl2
  have s1 := fun i => (sv_RS hq rfl i).mono (show qs.length * (J + 1) + 3 ≤ 101 * (J + 1) + 3 by omega)
  have m2 := Nat.mul_le_mul_right (101 * (J + 1) + 3 + 1) (show gst qs ≤ 101 by omega)
  have hz : (Bth.ps (Rnw.sv (xq qs)) (gst qs)).num ≠ 0 := fun e => hA.ne hA.g1 (Rat.num_eq_zero.1 e)
  exact (RS.div' ((s1 j).mono (show _ ≤ JJ by omega)) ((psf_RS s1 (gst qs)).mono (show _ ≤ JJ by omega)) hz)
/-- Is a row too long to be gone through? -/
def lgB (n m : Nat) : Bool := decide ((m < n ∧ n ≤ 101) ∨ 130 < n)
set_option maxHeartbeats 16000000 in
set_option maxRecDepth 100000 in
set_option linter.unusedSimpArgs false in
theorem llong_any (a : Option Addr) (n c m : Nat) (w : World) :
    Calls Tryz.prog 26 #[.slice a n c, .int .i64 (m : Int)] w fun e w' => e = .returned (.bool (lgB n m)) ∧ w' = w := by
  by_cases h1 : m < n
  · have e1 : (m : Int) < (n : Int) := by omega
    by_cases h2 : n ≤ 101
    · have e2 : (n : Int) ≤ 101 := by omega
      rw [show lgB n m = true from decide_eq_true (Or.inl ⟨h1, h2⟩)]
      go_enter Tryz.func26, Tryz.ntmps26
      go_wp2
      go_ret
      exact ⟨rfl, rfl⟩
    · have e2 : ¬ (n : Int) ≤ 101 := by omega
      by_cases h3 : 130 < n
      · have e3 : (130 : Int) < (n : Int) := by omega
        rw [show lgB n m = true from decide_eq_true (Or.inr h3)]
        go_enter Tryz.func26, Tryz.ntmps26
        go_wp2
        go_ret
        exact ⟨rfl, rfl⟩
      · have e3 : ¬ (130 : Int) < (n : Int) := by omega
        rw [show lgB n m = false from decide_eq_false (by omega)]
        go_enter Tryz.func26, Tryz.ntmps26
        go_wp2
        go_ret
        exact ⟨rfl, rfl⟩
  · have e1 : ¬ (m : Int) < (n : Int) := by omega
    by_cases h3 : 130 < n
    · have e3 : (130 : Int) < (n : Int) := by omega
      rw [show lgB n m = true from decide_eq_true (Or.inr h3)]
      go_enter Tryz.func26, Tryz.ntmps26
      go_wp2
      go_ret
      exact ⟨rfl, rfl⟩
    · have e3 : ¬ (130 : Int) < (n : Int) := by omega
      rw [show lgB n m = false from decide_eq_false (by omega)]
      go_enter Tryz.func26, Tryz.ntmps26
      go_wp2
      go_ret
      exact ⟨rfl, rfl⟩

set_option maxHeartbeats 16000000 in
set_option maxRecDepth 100000 in
set_option linter.unusedSimpArgs false in
theorem renewLeft_any (v : Value) (ps : List (Int × Int)) (w : World) (h : PairsAre w v ps) (htab : Tab w) (hg : ErrTy w) :
    Calls Tryz.prog 7 #[v] w fun e w' => e = .returned (.bool true) ∧ Below w.heap.size w w' := by
  have KKe : KK = 1099511627776 := rfl
  have HTB := hide htab
  have HGT := hide hg
  have HRS : Hid (∀ t, t < (pqs ps).length → RS (pqs ps)[t]! 1) := fun t ht => pqs_RS h t ht
  have hpl := pqs_length ps
  have HLI : Hid (ps.length ≤ 1000 → Calls Tryz.prog 11 #[v] w fun e w' => ∃ v, e = .returned v ∧ RList w' v (pqs ps) ∧ Below w.heap.size w w') := fun hl => refList_any v ps w h (by omega)
  have HLW : Hid (ps.length ≤ 1000 → ∀ W, Below w.heap.size w W → Calls Tryz.prog 31 #[v] W fun e w' => ∃ v, e = .returned v ∧ LawIs w' v (pqs ps) ∧ Below W.heap.size W w') := fun hl W hW => law_any v ps W (h.below hW) (by omega)
  obtain ⟨qs, hqs⟩ : ∃ qs, pqs ps = qs := ⟨_, rfl⟩
  rw [hqs] at HRS HLI HLW hpl
  obtain ⟨a, c, rfl, h1, h2, -⟩ := h
  obtain ⟨n, hn⟩ : ∃ n, ps.length = n := ⟨_, rfl⟩
  rw [hn] at HLI HLW hpl h1 ⊢
  have HPL := hide hpl
  have HLG := hide (llong_any a n c 40 w)
  obtain ⟨B, hB⟩ : ∃ B, lgB n 40 = B := ⟨_, rfl⟩
  rw [hB] at HLG
  clear htab hg hqs hpl hn
  cases B with
  | true =>
    go_enter Tryz.func7, Tryz.ntmps7
    go_wp2_with fail
    refine (unhide HLG).mono ?_
    rintro e w0 ⟨rfl, hw⟩
    have hw' := hw.symm
    subst hw'
    clear hw
    go_wp2
    go_ret
    exact ⟨rfl, Below.refl _ _⟩
  | false =>
  have hlg := of_decide_eq_false hB
  have hn130 : n ≤ 130 := by omega
  have HLI2 := hide (unhide HLI (by omega))
  have HLW2 := hide (unhide HLW (by omega))
  clear HLI HLW hB hlg
  have HLC : Hid (∀ W u, RList W u qs → Calls Tryz.prog 27 #[u] W fun e w' => e = .returned (.int .i64 (rnc qs)) ∧ Below W.heap.size W w') := fun W u hu => refLife_any u qs 1 W hu (unhide HRS) (by have := unhide HPL; omega)
  by_cases hk : rnc qs = 0
  · rw [hk] at HLC
    have HRL : Hid (∀ W u, RList W u qs → Calls Tryz.prog 33 #[u] W fun e w' => ∃ u, e = .returned u ∧ RList w' u (lfz qs) ∧ Below W.heap.size W w') := fun W u hu => refLeft_any u qs W hu (unhide HRS) hk
    have HLE : Hid (∀ W v, LawIs W v qs → Calls Tryz.prog 34 #[v] W (RowNil W (lfz qs) (gst qs))) := fun W v hv => left_ok v qs 1 30000 W hv (unhide HRS) hk (by omega) (by rw [KKe]; omega)
    have hzr := lfz_RS (JJ := 30000) hk (unhide HRS) (by omega)
    have hzl := lfz_len qs
    obtain ⟨hA, ht, hl1, hl2⟩ := rnc_age hk
    have hg100 : gst qs ≤ 100 := by omega
    obtain ⟨g, hg⟩ : ∃ g, gst qs = g := ⟨_, rfl⟩
    rw [hg] at HLE hzl hg100
    obtain ⟨lz, hlz⟩ : ∃ l, lfz qs = l := ⟨_, rfl⟩
    rw [hlz] at HRL HLE hzr hzl
    have HZR := hide hzr
    have HZL := hide hzl
    clear hk hzr hzl hA ht hl1 hl2 hg hlz
    go_enter Tryz.func7, Tryz.ntmps7
    go_wp2_with fail
    refine (unhide HLG).mono ?_
    rintro e w0 ⟨rfl, hw⟩
    have hw' := hw.symm
    subst hw'
    clear hw HLG
    go_wp2_with fail
    refine (unhide HLI2).mono ?_
    rintro e w1 ⟨v1, rfl, hl1, hb1⟩
    have HC1 := hide (unhide HLC w1 v1 hl1)
    have HL1 := hide hl1
    have HB1 := hide hb1
    obtain ⟨a1, c1, rfl, m1, m2, -⟩ := id hl1
    rw [unhide HPL] at HC1 HL1 m1 ⊢
    clear hb1 hl1 HLI2 HLC
    go_wp2_with fail
    refine (unhide HC1).mono ?_
    rintro e w2 ⟨rfl, hb2⟩
    have HR2 := hide (unhide HRL w2 _ ((unhide HL1).below hb2))
    have HB2 := hide (below_step (unhide HB1) hb2)
    clear hb2 HC1 HL1 HRL HB1
    go_wp2_with fail
    refine (unhide HR2).mono ?_
    rintro e w3 ⟨v3, rfl, hl3, hb3⟩
    have HB3 := hide (below_step (unhide HB2) hb3)
    have HL3 := hide hl3
    obtain ⟨a3, c3, rfl, m31, m32, -⟩ := id hl3
    rw [unhide HZL] at HL3 m31 ⊢
    clear hb3 hl3 HR2 HB2
    go_wp2_with fail
    refine (unhide HLW2 w3 (unhide HB3)).mono ?_
    rintro e w4 ⟨v4, rfl, hl4, hb4⟩
    have HLE4 := hide (unhide HLE w4 v4 hl4)
    have HL4 := hide ((unhide HL3).below hb4)
    have HB4 := hide (below_step (unhide HB3) hb4)
    obtain ⟨a4, c4, rfl, m41, m42, -⟩ := id hl4
    rw [unhide HPL] at HLE4 m41 ⊢
    clear hb4 hl4 HL3 HB3 HLW2 HLE
    go_wp2_with fail
    refine (unhide HLE4).mono ?_
    rintro e w5 ⟨G, us, rfl, hul, hgl, S⟩
    have hLW := S.law (by omega)
    rw [hul] at hLW
    have HB5 := hide (below_step (unhide HB4) S.bl)
    have HOK := hide (list_ok (.slice (some ⟨G, 0, none⟩) g g) (.slice a3 g c3) lz (30000 + 30000) w5 hLW ((unhide HL4).below S.bl) (unhide HZR) (by decide) (by rw [unhide HZL]; omega) (tab_below (unhide HTB) (unhide HB5)))
    clear S hul hgl hLW HLE4 HL4 HB4
    go_wp2_with fail
    refine (unhide HOK).mono ?_
    rintro e w6 ⟨rfl, hb6⟩
    have HB6 := hide (below_step (unhide HB5) hb6)
    clear hb6 HOK HB5
    go_wp2
    go_ret
    exact ⟨rfl, unhide HB6⟩
  · have HLE : Hid (∀ W v, LawIs W v qs → Calls Tryz.prog 34 #[v] W fun e w' => e = .returned (.tuple #[.slice none 0 0, .iface 27 (.int .i64 (rnc qs))]) ∧ Below W.heap.size W w') := fun W v hv => left_err v qs 1 (rnc qs) W hv (unhide HRS) (by rw [KKe]; have := unhide HPL; omega) rfl hk
    obtain ⟨k, hk'⟩ : ∃ k, rnc qs = k := ⟨_, rfl⟩
    rw [hk'] at HLE HLC hk
    have HER : Hid (∀ W, Below w.heap.size w W → Calls Tryz.prog 19 #[.slice none 0 0, .iface 27 (.int .i64 k), .slice none 0 0, .int .i64 k] W fun e w' => e = .returned (.bool true) ∧ Below W.heap.size W w') := fun W hW => list_err none 0 _ k hk W ((unhide HGT).below hW)
    have kz : (k == 0) = false := by simpa using hk
    have kz2 : ¬ k = 0 := hk
    clear hk hk'
    go_enter Tryz.func7, Tryz.ntmps7
    go_wp2_with fail
    refine (unhide HLG).mono ?_
    rintro e w0 ⟨rfl, hw⟩
    have hw' := hw.symm
    subst hw'
    clear hw HLG
    go_wp2_with fail
    refine (unhide HLI2).mono ?_
    rintro e w1 ⟨v1, rfl, hl1, hb1⟩
    have HC1 := hide (unhide HLC w1 v1 hl1)
    have HB1 := hide hb1
    obtain ⟨a1, c1, rfl, m1, m2, -⟩ := id hl1
    rw [unhide HPL] at HC1 m1 ⊢
    clear hb1 hl1 HLI2 HLC
    go_wp2_with fail
    refine (unhide HC1).mono ?_
    rintro e w2 ⟨rfl, hb2⟩
    have HB2 := hide (below_step (unhide HB1) hb2)
    clear hb2 HC1 HB1
    go_wp2_with fail
    refine (unhide HLW2 w2 (unhide HB2)).mono ?_
    rintro e w4 ⟨v4, rfl, hl4, hb4⟩
    have HLE4 := hide (unhide HLE w4 v4 hl4)
    have HB4 := hide (below_step (unhide HB2) hb4)
    obtain ⟨a4, c4, rfl, m41, m42, -⟩ := id hl4
    rw [unhide HPL] at HLE4 m41 ⊢
    clear hb4 hl4 HB2 HLW2 HLE
    go_wp2_with fail
    refine (unhide HLE4).mono ?_
    rintro e w5 ⟨rfl, hb5⟩
    have HB5 := hide (below_step (unhide HB4) hb5)
    have HOK := hide (unhide HER w5 (unhide HB5))
    clear hb5 HLE4 HB4 HER
    go_wp2_with fail
    refine (unhide HOK).mono ?_
    rintro e w6 ⟨rfl, hb6⟩
    have HB6 := hide (below_step (unhide HB5) hb6)
    clear hb6 HOK HB5
    go_wp2
    go_ret
    exact ⟨rfl, unhide HB6⟩

end Go.Proofs.YtcelbgleajpenaaGreatDoor
