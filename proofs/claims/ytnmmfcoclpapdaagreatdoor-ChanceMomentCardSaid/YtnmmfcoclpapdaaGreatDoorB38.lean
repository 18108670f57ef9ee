/- What chance.Moment and Over say where something is wrong; the document's Power, Moment, Over. -/
import Derived.Test.YtnmmfcoclpapdaaGreatDoorBI
import Derived.Test.YtnmmfcoclpapdaaGreatDoorWB
namespace Go.Proofs.YtnmmfcoclpapdaaGreatDoor
open Go.RowKit Go.Sort Go.Shelf

set_option maxHeartbeats 2000000 in
theorem momentI_err (v : Value) (qs : List Rat) (J : Nat) (p : Int) (w : World) (h : LawIs w v qs) (hq : ∀ j, j < qs.length → RS qs[j]! J) (hJ : (qs.length * (J + 1) + 1 + J) + (qs.length * (J + 1) + 1 + J) + 1 ≤ KK) (hc : chk qs ≠ 0) :
    Calls Tryz.prog 54 #[v, .int .i64 p] w fun e w' => e = .returned (.tuple #[zAgg, errV (chk qs)]) ∧ Below w.heap.size w w' := by
  obtain ⟨hb0, hX, hI, hI2⟩ := intBox_parts w p
  have HC := hide (check_any v qs J _ (h.below hb0) hq hJ)
  rw [errV_not hc] at HC ⊢
  generalize chk qs = k at *
  have HB0 := hide hb0
  have HX := hide hX
  obtain ⟨W0, hW0⟩ : ∃ W, (w.alloc (.cells #[.int .i64 p] 3)).alloc (.cells #[.bool false, .slice none 0 0, .slice none 0 0] 27) = W := ⟨_, rfl⟩
  obtain ⟨gr, hgr⟩ : ∃ g, w.heap.size + 1 = g := ⟨_, rfl⟩
  have hle : w.heap.size ≤ gr := by omega
  have hW0' : intBox w p = W0 := hW0
  rw [hW0'] at HC HB0 HX
  rw [hgr] at HX
  have HLE := hide hle
  clear h hq hJ hc hb0 hX hI hI2 hW0' hle
  go_enter Tryz.func54, Tryz.ntmps54
  go_wp2_with fail
  clear hW0 hgr
  refine (unhide HC).mono ?_
  rintro e w2 ⟨rfl, hb2⟩
  have X2 := (unhide HX).keep hb2
  have ⟨g0, g1, g2, f0, f1, f2⟩ := box_cell X2.1
  have BEL := hide ((((below_step (unhide HB0) hb2).setCell (p := ⟨gr, 0, none⟩) (unhide HLE) (.bool false)).setCell (p := ⟨gr, 1, none⟩) (unhide HLE) (.slice none 0 0)).setCell (p := ⟨gr, 2, none⟩) (unhide HLE) (.slice none 0 0))
  clear X2 hb2
  go_wp2
  exact bodyPost_ret (v := .tuple #[zAgg, .iface 35 (.int .i64 k)]) (by simp [results, Tryz.results54, go_sem, g0, g1, g2, zAgg]) rfl ⟨rfl, unhide BEL⟩
set_option maxHeartbeats 8000000 in
set_option maxRecDepth 100000 in
set_option linter.unusedSimpArgs false in
theorem momentI_bad (v : Value) (qs : List Rat) (J : Nat) (p : Int) (w : World) (h : LawIs w v qs) (hq : ∀ j, j < qs.length → RS qs[j]! J) (hJ : (qs.length * (J + 1) + 1 + J) + (qs.length * (J + 1) + 1 + J) + 1 ≤ KK) (hc : chk qs = 0) (hp : p < 0 ∨ 4 < p) :
    Calls Tryz.prog 54 #[v, .int .i64 p] w fun e w' => e = .returned (.tuple #[zAgg, .iface 35 (.int .i64 2)]) ∧ Below w.heap.size w w' := by
  obtain ⟨hb0, hX, hI, hI2⟩ := intBox_parts w p
  have HC := hide (check_any v qs J _ (h.below hb0) hq hJ)
  rw [hc, errV_zero] at HC
  have HB0 := hide hb0
  have HX := hide hX
  have HI : Hid (∀ W, Below (intBox w p).heap.size (intBox w p) W → W.cell? ⟨w.heap.size, 0, none⟩ = some (.int .i64 p)) := fun W hW => by rw [hW.cell (p := ⟨w.heap.size, 0, none⟩) hI2]; exact hI
  obtain ⟨W0, hW0⟩ : ∃ W, (w.alloc (.cells #[.int .i64 p] 3)).alloc (.cells #[.bool false, .slice none 0 0, .slice none 0 0] 27) = W := ⟨_, rfl⟩
  obtain ⟨gr, hgr⟩ : ∃ g, w.heap.size + 1 = g := ⟨_, rfl⟩
  have hle : w.heap.size ≤ gr := by omega
  have hW0' : intBox w p = W0 := hW0
  rw [hW0'] at HC HB0 HX HI
  rw [hgr] at HX
  have HLE := hide hle
  have HP : Hid (p < 0 ∨ 4 < p) := hp
  clear h hq hJ hc hb0 hX hI hI2 hW0' hle hp
  go_enter Tryz.func54, Tryz.ntmps54
  go_wp2_with fail
  clear hW0 hgr
  refine (unhide HC).mono ?_
  rintro e w2 ⟨rfl, hb2⟩
  have hc2 := unhide HI _ hb2
  have X2 := (unhide HX).keep hb2
  have ⟨g0, g1, g2, f0, f1, f2⟩ := box_cell X2.1
  have BEL := hide ((((below_step (unhide HB0) hb2).setCell (p := ⟨gr, 0, none⟩) (unhide HLE) (.bool false)).setCell (p := ⟨gr, 1, none⟩) (unhide HLE) (.slice none 0 0)).setCell (p := ⟨gr, 2, none⟩) (unhide HLE) (.slice none 0 0))
  clear X2 hb2
  by_cases hp0 : p < 0
  · go_wp2
    exact bodyPost_ret (v := .tuple #[zAgg, .iface 35 (.int .i64 2)]) (by simp [results, Tryz.results54, go_sem, g0, g1, g2, zAgg]) rfl ⟨rfl, unhide BEL⟩
  · have hp1 : 4 < p := (unhide HP).resolve_left hp0
    go_wp2
    exact bodyPost_ret (v := .tuple #[zAgg, .iface 35 (.int .i64 2)]) (by simp [results, Tryz.results54, go_sem, g0, g1, g2, zAgg]) rfl ⟨rfl, unhide BEL⟩
set_option maxHeartbeats 2000000 in
theorem overI_err (v : Value) (qs : List Rat) (J : Nat) (p : Int) (w : World) (h : LawIs w v qs) (hq : ∀ j, j < qs.length → RS qs[j]! J) (hJ : (qs.length * (J + 1) + 1 + J) + (qs.length * (J + 1) + 1 + J) + 1 ≤ KK) (hc : chk qs ≠ 0) :
    Calls Tryz.prog 56 #[v, .int .i64 p] w fun e w' => e = .returned (.tuple #[zAgg, errV (chk qs)]) ∧ Below w.heap.size w w' := by
  obtain ⟨hb0, hX, hI, hI2⟩ := intBox_parts w p
  have HC := hide (check_any v qs J _ (h.below hb0) hq hJ)
  rw [errV_not hc] at HC ⊢
  generalize chk qs = k at *
  have HB0 := hide hb0
  have HX := hide hX
  obtain ⟨W0, hW0⟩ : ∃ W, (w.alloc (.cells #[.int .i64 p] 3)).alloc (.cells #[.bool false, .slice none 0 0, .slice none 0 0] 27) = W := ⟨_, rfl⟩
  obtain ⟨gr, hgr⟩ : ∃ g, w.heap.size + 1 = g := ⟨_, rfl⟩
  have hle : w.heap.size ≤ gr := by omega
  have hW0' : intBox w p = W0 := hW0
  rw [hW0'] at HC HB0 HX
  rw [hgr] at HX
  have HLE := hide hle
  clear h hq hJ hc hb0 hX hI hI2 hW0' hle
  go_enter Tryz.func56, Tryz.ntmps56
  go_wp2_with fail
  clear hW0 hgr
  refine (unhide HC).mono ?_
  rintro e w2 ⟨rfl, hb2⟩
  have X2 := (unhide HX).keep hb2
  have ⟨g0, g1, g2, f0, f1, f2⟩ := box_cell X2.1
  have BEL := hide ((((below_step (unhide HB0) hb2).setCell (p := ⟨gr, 0, none⟩) (unhide HLE) (.bool false)).setCell (p := ⟨gr, 1, none⟩) (unhide HLE) (.slice none 0 0)).setCell (p := ⟨gr, 2, none⟩) (unhide HLE) (.slice none 0 0))
  clear X2 hb2
  go_wp2
  exact bodyPost_ret (v := .tuple #[zAgg, .iface 35 (.int .i64 k)]) (by simp [results, Tryz.results56, go_sem, g0, g1, g2, zAgg]) rfl ⟨rfl, unhide BEL⟩
set_option maxHeartbeats 8000000 in
set_option maxRecDepth 100000 in
set_option linter.unusedSimpArgs false in
theorem overI_bad (v : Value) (qs : List Rat) (J : Nat) (p : Int) (w : World) (h : LawIs w v qs) (hq : ∀ j, j < qs.length → RS qs[j]! J) (hJ : (qs.length * (J + 1) + 1 + J) + (qs.length * (J + 1) + 1 + J) + 1 ≤ KK) (hc : chk qs = 0) (hp : p < 0 ∨ 100 < p) :
    Calls Tryz.prog 56 #[v, .int .i64 p] w fun e w' => e = .returned (.tuple #[zAgg, .iface 35 (.int .i64 2)]) ∧ Below w.heap.size w w' := by
  obtain ⟨hb0, hX, hI, hI2⟩ := intBox_parts w p
  have HC := hide (check_any v qs J _ (h.below hb0) hq hJ)
  rw [hc, errV_zero] at HC
  have HB0 := hide hb0
  have HX := hide hX
  have HI : Hid (∀ W, Below (intBox w p).heap.size (intBox w p) W → W.cell? ⟨w.heap.size, 0, none⟩ = some (.int .i64 p)) := fun W hW => by rw [hW.cell (p := ⟨w.heap.size, 0, none⟩) hI2]; exact hI
  obtain ⟨W0, hW0⟩ : ∃ W, (w.alloc (.cells #[.int .i64 p] 3)).alloc (.cells #[.bool false, .slice none 0 0, .slice none 0 0] 27) = W := ⟨_, rfl⟩
  obtain ⟨gr, hgr⟩ : ∃ g, w.heap.size + 1 = g := ⟨_, rfl⟩
  have hle : w.heap.size ≤ gr := by omega
  have hW0' : intBox w p = W0 := hW0
  rw [hW0'] at HC HB0 HX HI
  rw [hgr] at HX
  have HLE := hide hle
  have HP : Hid (p < 0 ∨ 100 < p) := hp
  clear h hq hJ hc hb0 hX hI hI2 hW0' hle hp
  go_enter Tryz.func56, Tryz.ntmps56
  go_wp2_with fail
  clear hW0 hgr
  refine (unhide HC).mono ?_
  rintro e w2 ⟨rfl, hb2⟩
  have hc2 := unhide HI _ hb2
  have X2 := (unhide HX).keep hb2
  have ⟨g0, g1, g2, f0, f1, f2⟩ := box_cell X2.1
  have BEL := hide ((((below_step (unhide HB0) hb2).setCell (p := ⟨gr, 0, none⟩) (unhide HLE) (.bool false)).setCell (p := ⟨gr, 1, none⟩) (unhide HLE) (.slice none 0 0)).setCell (p := ⟨gr, 2, none⟩) (unhide HLE) (.slice none 0 0))
  clear X2 hb2
  by_cases hp0 : p < 0
  · go_wp2
    exact bodyPost_ret (v := .tuple #[zAgg, .iface 35 (.int .i64 2)]) (by simp [results, Tryz.results56, go_sem, g0, g1, g2, zAgg]) rfl ⟨rfl, unhide BEL⟩
  · have hp1 : 100 < p := (unhide HP).resolve_left hp0
    go_wp2
    exact bodyPost_ret (v := .tuple #[zAgg, .iface 35 (.int .i64 2)]) (by simp [results, Tryz.results56, go_sem, g0, g1, g2, zAgg]) rfl ⟨rfl, unhide BEL⟩
theorem RS_int {x : Int} (h : I64 x) : RS (x : Rat) 1 := by
  refine ⟨?_, ?_⟩
  · rw [Rat.num_intCast, Wd.pw_one]; have := h.1; have := h.2; omega
  · rw [Rat.den_intCast]; decide
/-- A whole number's power, as a fraction. -/
def powR (x p : Nat) : Rat := (((x ^ p : Nat) : Int) : Rat)
set_option maxHeartbeats 8000000 in
set_option maxRecDepth 100000 in
set_option linter.unusedSimpArgs false in
theorem refPower_any (x p b : Nat) (hx : x ≤ 100) (hp : p ≤ 4) (w : World) (h : BRz w b 0 (((x : Nat) : Int) : Rat)) :
    Calls Tryz.prog 106 #[.pointer (some ⟨b, 0, none⟩), .int .i64 (p : Int)] w (NewsZ w (powR x p)) := by
  have HH := hide h
  have HX := hide hx
  have HI := hide (refIntz_any 1 (by decide) (by decide) w)
  clear h hx
  go_enter Tryz.func106, Tryz.ntmps106
  go_wp2_with fail
  refine (unhide HI).mono ?_
  rintro e w1 ⟨b1, rfl, hge, hr, hb⟩
  have HR := hide hr
  have HB := hide hb
  have HG := hide hge
  clear hr hb hge HI
  go_wp2_with fail
  go_loopw [5, 6] (fun vs vi wr => ∃ (i b' : Nat), vs = .pointer (some ⟨b', 0, none⟩) ∧ vi = .int .i64 (i : Int) ∧ i ≤ p ∧ BRz wr b' 0 (powR x i) ∧ Below w.heap.size w wr ∧ w.heap.size ≤ b') (fun _ vi _ => p - (intOf vi).toNat)
  case atStart => exact ⟨0, b1, rfl, rfl, Nat.zero_le _, by simpa [powR] using unhide HR, unhide HB, unhide HG⟩
  case round =>
    obtain ⟨i, b', rfl, rfl, hi, hr, hb, hge⟩ := hrel
    have HGE := hide hge
    have HBB := hide hb
    by_cases hlt : i < p
    · have f1 : (i : Int) < (p : Int) := by omega
      have f3 : IntKind.i64.wrap ((i : Int) + 1) = (i : Int) + 1 := by rw [IntKind.wrap_i64]; omega
      have HM := hide (refMul_any b' b 1 1 _ _ wr hr ((unhide HH).below hb) (RS_int (pow_I64 (unhide HX) (by omega))) (RS_int ⟨by have := unhide HX; omega, by have := unhide HX; omega⟩) (by decide))
      have e : powR x i * (((x : Nat) : Int) : Rat) = powR x (i + 1) := by
        unfold powR
        rw [← Rat.intCast_mul, Nat.pow_succ, Int.natCast_mul]
      rw [e] at HM
      clear hr hb hge e
      go_wp2_with fail
      refine (unhide HM).mono ?_
      rintro e w2 ⟨b2, rfl, hge2, hr2, hb2⟩
      have HR2 := hide hr2
      have HB2 := hide (bstep (unhide HBB) hb2)
      have HG2 := hide (Nat.le_trans (unhide HBB).size hge2)
      clear hr2 hb2 hge2 HM
      go_wp2_with fail
      exact ⟨⟨i + 1, b2, rfl, by go_num, hlt, unhide HR2, unhide HB2, unhide HG2⟩, by simp [intOf]; omega⟩
    · obtain rfl : p = i := by omega
      have f1 : ¬ (p : Int) < (p : Int) := by omega
      have HR2 := hide hr
      clear hr hb hge
      go_wp2
      (try simp only [Exit.inBlock, Exit.then])
      (try go_wp2)
      go_ret
      exact ⟨b', rfl, unhide HGE, unhide HR2, unhide HBB⟩
set_option maxHeartbeats 8000000 in
set_option maxRecDepth 100000 in
set_option linter.unusedSimpArgs false in
theorem refMoment_any (v : Value) (qs : List Rat) (p : Nat) (w : World) (h : RList w v qs) (hq : ∀ j, j < qs.length → RS qs[j]! 1) (hl : qs.length ≤ 101) (hp : p ≤ 4) :
    Calls Tryz.prog 53 #[v, .int .i64 (p : Int)] w (NewsZ w (wsum qs (fun j => ((j ^ p : Nat) : Int)) qs.length)) := by
  obtain ⟨a, c, rfl, h1, h2, h3⟩ := h
  obtain ⟨n, hn⟩ : ∃ n, qs.length = n := ⟨_, rfl⟩
  rw [hn] at h1 h3 hl ⊢
  have H3 := hide h3
  have HQ := hide hq
  have HN := hide hn
  have HL := hide hl
  have HP := hide hp
  have HI := hide (refIntz_any 0 (by decide) (by decide) w)
  rw [Rat.intCast_zero] at HI
  clear h3 hq hn hl hp
  go_enter Tryz.func53, Tryz.ntmps53
  go_wp2_with fail
  refine (unhide HI).mono ?_
  rintro e w1 ⟨b1, rfl, hge, hr, hb⟩
  have HR := hide hr
  have HB := hide hb
  have HG := hide hge
  clear hr hb hge HI
  go_wp2_with fail
  go_loopw [5, 11] (fun vs vi wr => ∃ (i b' : Nat), vs = .pointer (some ⟨b', 0, none⟩) ∧ vi = .int .i64 (i : Int) ∧ i ≤ n ∧ BRz wr b' 0 (wsum qs (fun j => ((j ^ p : Nat) : Int)) i) ∧ Below w.heap.size w wr ∧ w.heap.size ≤ b') (fun _ vi _ => n - (intOf vi).toNat)
  case atStart => exact ⟨0, b1, rfl, rfl, Nat.zero_le _, unhide HR, unhide HB, unhide HG⟩
  case round =>
    obtain ⟨i, b', rfl, rfl, hi, hr, hb, hge⟩ := hrel
    have HGE := hide hge
    have HBB := hide hb
    have HRR := hide hr
    by_cases hlt : i < n
    · obtain ⟨bl, ol, rfl, hblt, hcs⟩ := unhide H3 (by omega)
      obtain ⟨x, k0, kx⟩ := hcs i hlt
      rw [← hb.cell (p := ⟨bl, ol + i, none⟩) hblt] at k0
      have HKX := hide (kx.below hb)
      have hi0 : (0 : Int) ≤ (i : Int) := by omega
      have hi1 : (i : Int) < (n : Int) := by omega
      have hI : i ≤ 100 := by have := unhide HL; omega
      have HI1 := hide hI
      have hF : I64 ((fun j => ((j ^ p : Nat) : Int)) i) := pow_I64 hI (unhide HP)
      have HF := hide hF
      have HWS := hide (wsum_RS (F := (fun j => ((j ^ p : Nat) : Int))) (unhide HQ) (fun j hj => pow_I64 (by have := unhide HL; have := unhide HN; omega) (unhide HP)) i (by rw [unhide HN]; exact hi))
      have HQI := hide (unhide HQ i (by rw [unhide HN]; exact hlt))
      have e9 : wsum qs (fun j => ((j ^ p : Nat) : Int)) (i + 1) = wsum qs (fun j => ((j ^ p : Nat) : Int)) i + qs[i]! * (((fun j => ((j ^ p : Nat) : Int)) i : Int) : Rat) := rfl
      have HE9 := hide e9
      have HJJ : Hid (i * (1 + 2) + 1 + (1 + 1) ≤ 400000) := by show _ ≤ _; omega
      clear hr hb hge kx hcs hF hI e9
      have HIN := hide (refIntz_any (i : Int) (by have := unhide HI1; omega) (by have := unhide HI1; omega) wr)
      go_wp2_with fail
      refine (unhide HIN).mono ?_
      rintro e w3 ⟨b3, rfl, -, hr3, hb3⟩
      have HB3 := hide hb3
      have HPW := hide (refPower_any i p b3 (unhide HI1) (unhide HP) w3 hr3)
      clear hr3 hb3 HIN
      go_wp2_with fail
      refine (unhide HPW).mono ?_
      rintro e wz ⟨bz, rfl, -, hrz, hbz⟩
      have HRZ : Hid (BRz wz bz 0 ((((i ^ p : Nat) : Int) : Int) : Rat)) := hrz
      have HBZ := hide (bstep (unhide HB3) hbz)
      clear hrz hbz HPW
      go_wp2_with fail
      refine (refMul_any x bz 1 1 _ _ wz ((unhide HKX).below (unhide HBZ)) (unhide HRZ) (unhide HQI) (RS_int (unhide HF)) (by decide)).mono ?_
      rintro e w5 ⟨b5, rfl, -, hr5, hb5⟩
      have HB5 := hide (bstep (unhide HBZ) hb5)
      have HA := hide (refAdd_any b' b5 (i * (1 + 2) + 1) (1 + 1) _ _ w5 ((unhide HRR).below (unhide HB5)) hr5 (unhide HWS) (RS.mul (unhide HQI) (RS_int (unhide HF))) (unhide HJJ))
      rw [← unhide HE9] at HA
      clear hr5 hb5
      go_wp2_with fail
      refine (unhide HA).mono ?_
      rintro e w6 ⟨b6, rfl, hge6, hr6, hb6⟩
      have HR6 := hide hr6
      have HB6 := hide (bstep (bstep (unhide HBB) (unhide HB5)) hb6)
      have HG6 := hide (Nat.le_trans (bstep (unhide HBB) (unhide HB5)).size hge6)
      clear hr6 hb6 hge6 HA
      go_wp2_with fail
      exact ⟨⟨i + 1, b6, rfl, by go_num, hlt, unhide HR6, unhide HB6, unhide HG6⟩, by simp [intOf]; omega⟩
    · obtain rfl : n = i := by omega
      clear hr hb hge
      go_wp2
      (try simp only [Exit.inBlock, Exit.then])
      (try go_wp2)
      go_ret
      exact ⟨b', rfl, unhide HGE, unhide HRR, unhide HBB⟩
set_option maxHeartbeats 8000000 in
set_option maxRecDepth 100000 in
set_option linter.unusedSimpArgs false in
theorem refOver_any (v : Value) (qs : List Rat) (p : Nat) (w : World) (h : RList w v qs) (hq : ∀ j, j < qs.length → RS qs[j]! 1) (hl : qs.length ≤ 101) (hp : p ≤ 100) :
    Calls Tryz.prog 55 #[v, .int .i64 (p : Int)] w (NewsZ w (wsum qs (over p) qs.length)) := by
  obtain ⟨a, c, rfl, h1, h2, h3⟩ := h
  obtain ⟨n, hn⟩ : ∃ n, qs.length = n := ⟨_, rfl⟩
  rw [hn] at h1 h3 hl ⊢
  have H3 := hide h3
  have HQ := hide hq
  have HN := hide hn
  have HL := hide hl
  have HP := hide hp
  have HI := hide (refIntz_any 0 (by decide) (by decide) w)
  rw [Rat.intCast_zero] at HI
  clear h3 hq hn hl hp
  go_enter Tryz.func55, Tryz.ntmps55
  go_wp2_with fail
  refine (unhide HI).mono ?_
  rintro e w1 ⟨b1, rfl, hge, hr, hb⟩
  have HR := hide hr
  have HB := hide hb
  have HG := hide hge
  clear hr hb hge HI
  go_wp2_with fail
  go_loopw [5, 11] (fun vs vi wr => ∃ (i b' : Nat), vs = .pointer (some ⟨b', 0, none⟩) ∧ vi = .int .i64 (i : Int) ∧ i ≤ n ∧ BRz wr b' 0 (wsum qs (over p) i) ∧ Below w.heap.size w wr ∧ w.heap.size ≤ b') (fun _ vi _ => n - (intOf vi).toNat)
  case atStart => exact ⟨0, b1, rfl, rfl, Nat.zero_le _, unhide HR, unhide HB, unhide HG⟩
  case round =>
    obtain ⟨i, b', rfl, rfl, hi, hr, hb, hge⟩ := hrel
    have HGE := hide hge
    have HBB := hide hb
    have HRR := hide hr
    by_cases hlt : i < n
    · obtain ⟨bl, ol, rfl, hblt, hcs⟩ := unhide H3 (by omega)
      obtain ⟨x, k0, kx⟩ := hcs i hlt
      rw [← hb.cell (p := ⟨bl, ol + i, none⟩) hblt] at k0
      have HKX := hide (kx.below hb)
      have hi0 : (0 : Int) ≤ (i : Int) := by omega
      have hi1 : (i : Int) < (n : Int) := by omega
      have hI : i ≤ 100 := by have := unhide HL; omega
      have HI1 := hide hI
      have hF : I64 ((over p) i) := over_I64 (by omega)
      have HF := hide hF
      have HWS := hide (wsum_RS (F := (over p)) (unhide HQ) (fun j hj => over_I64 (by have := unhide HL; have := unhide HN; omega)) i (by rw [unhide HN]; exact hi))
      have HQI := hide (unhide HQ i (by rw [unhide HN]; exact hlt))
      have e9 : wsum qs (over p) (i + 1) = wsum qs (over p) i + qs[i]! * (((over p) i : Int) : Rat) := rfl
      have HE9 := hide e9
      have HJJ : Hid (i * (1 + 2) + 1 + (1 + 1) ≤ 400000) := by show _ ≤ _; omega
      clear hr hb hge kx hcs hF hI e9
      have s1 : IntKind.i64.wrap ((i : Int) - (p : Int)) = (i : Int) - (p : Int) := by have := unhide HI1; have := unhide HP; rw [IntKind.wrap_i64]; omega
      have s2 : max 0 ((i : Int) - (p : Int)) = over p i := by unfold over; omega
      have HIN := hide (refIntz_any (over p i) (unhide HF).1 (unhide HF).2 wr)
      obtain ⟨ov, hov⟩ : ∃ t, over p i = t := ⟨_, rfl⟩
      rw [hov] at s2 HIN
      have HOV := hide hov
      clear hov
      go_wp2_with fail
      refine (unhide HIN).mono ?_
      rintro e wz ⟨bz, rfl, -, hrz, hbz⟩
      have HRZ : Hid (BRz wz bz 0 ((over p i : Int) : Rat)) := by show BRz _ _ _ _; rw [unhide HOV]; exact hrz
      have HBZ := hide hbz
      clear hrz hbz HIN
      go_wp2_with fail
      refine (refMul_any x bz 1 1 _ _ wz ((unhide HKX).below (unhide HBZ)) (unhide HRZ) (unhide HQI) (RS_int (unhide HF)) (by decide)).mono ?_
      rintro e w5 ⟨b5, rfl, -, hr5, hb5⟩
      have HB5 := hide (bstep (unhide HBZ) hb5)
      have HA := hide (refAdd_any b' b5 (i * (1 + 2) + 1) (1 + 1) _ _ w5 ((unhide HRR).below (unhide HB5)) hr5 (unhide HWS) (RS.mul (unhide HQI) (RS_int (unhide HF))) (unhide HJJ))
      rw [← unhide HE9] at HA
      clear hr5 hb5
      go_wp2_with fail
      refine (unhide HA).mono ?_
      rintro e w6 ⟨b6, rfl, hge6, hr6, hb6⟩
      have HR6 := hide hr6
      have HB6 := hide (bstep (bstep (unhide HBB) (unhide HB5)) hb6)
      have HG6 := hide (Nat.le_trans (bstep (unhide HBB) (unhide HB5)).size hge6)
      clear hr6 hb6 hge6 HA
      go_wp2_with fail
      exact ⟨⟨i + 1, b6, rfl, by go_num, hlt, unhide HR6, unhide HB6, unhide HG6⟩, by simp [intOf]; omega⟩
    · obtain rfl : n = i := by omega
      clear hr hb hge
      go_wp2
      (try simp only [Exit.inBlock, Exit.then])
      (try go_wp2)
      go_ret
      exact ⟨b', rfl, unhide HGE, unhide HRR, unhide HBB⟩
end Go.Proofs.YtnmmfcoclpapdaaGreatDoor
