/- The checker's sum and difference. -/
import Derived.Test.YtcelbgleajpenaaGreatDoorBB
namespace Go.Proofs.YtcelbgleajpenaaGreatDoor
open Go.RowKit Go.Sort

theorem lv_next {xs : List Int} {i : Nat} (x : Int) (hi : i < xs.length) : lv (xs.set i x) (i + 1) = lv xs i + Wh.pw i * x := by
 unfold lv
 rw [Wh.vl_succ]
 have e : (xs.set i x)[i]! = x := by simp [hi]
 rw [e, Wh.vl_congr (g := fun j => xs[j]!) (fun j hj => get_set (by omega))]
theorem add32_step {S c x y p V : Int} (h : S + p * c = V) : S + p * ((c + x + y) % 4294967296) + 4294967296 * p * ((c + x + y) / 4294967296) = V + p * x + p * y := by
 have e := Int.mul_ediv_add_emod (c + x + y) 4294967296
 generalize (c + x + y) % 4294967296 = u at *
 generalize (c + x + y) / 4294967296 = v at *
 have e2 : p * u + 4294967296 * p * v = p * (4294967296 * v + u) := by grind
 rw [Int.add_assoc, e2, e]
 grind
theorem sub32_step {S c x y p V : Int} (h : S - p * c = V) : S + p * ((x - c - y) % 4294967296) - 4294967296 * p * (-((x - c - y) / 4294967296)) = V + p * x - p * y := by
 have e := Int.mul_ediv_add_emod (x - c - y) 4294967296
 generalize (x - c - y) % 4294967296 = u at *
 generalize (x - c - y) / 4294967296 = v at *
 have e2 : p * u - 4294967296 * p * (-v) = p * (4294967296 * v + u) := by grind
 have e3 : S + p * u - 4294967296 * p * (-v) = S + (p * u - 4294967296 * p * (-v)) := by omega
 rw [e3, e2, e]
 grind
set_option maxHeartbeats 4000000 in
set_option maxRecDepth 100000 in
set_option linter.unusedSimpArgs false in
theorem add32_any (va vb : Value) (A B : Int) (w : World) (ha : HNat w va A) (hb : HNat w vb B) (sa : SmH A) (sb : SmH B) :
  Calls Tryz.prog 180 #[va, vb] w fun e w' => ∃ v, e = .returned v ∧ HNat w' v (A + B) ∧ Below w.heap.size w w' := by
 obtain ⟨a, n, c, rfl, hl, h1, h2, h3⟩ := ha
 obtain ⟨a', m, c', rfl, hl', h1', h2', h3'⟩ := hb
 have hn6 : n ≤ 1000000 := sa.len hl
 have hm6 : m ≤ 1000000 := sb.len hl'
 have H3 := hide h3
 have H3' := hide h3'
 have HLA := hide hl
 have HLB := hide hl'
 clear sa sb h3 h3' hl hl'
 by_cases hsw : n < m
 ·have e1 : (n : Int) < (m : Int) := by omega
  obtain ⟨L, hL⟩ : ∃ L, m + 1 = L := ⟨_, rfl⟩
  have HL := hide hL
  have qmk := make_halves L (by omega) w
  have S0 := HOwn.start w L
  obtain ⟨W0, hW0⟩ : ∃ W, w.alloc (.cells (halves (List.replicate L 0)).toArray 175) = W := ⟨_, rfl⟩
  obtain ⟨g, hg⟩ : ∃ g, w.heap.size = g := ⟨_, rfl⟩
  rw [hW0, hg] at qmk S0
  have HS0 := hide S0
  have e4 : IntKind.i64.wrap ((m : Int) + 1) = (L : Int) := by rw [IntKind.wrap_i64]; omega
  clear S0 hg hW0 hL
  go_enter Tryz.func180, Tryz.ntmps180
  go_wp2_with fail
  clear qmk
  go_loopw [6, 7] (fun vc vi wr => ∃ (i : Nat) (cy : Int) (xs : List Int), vc = .int .u64 cy ∧ vi = .int .i64 (i : Int) ∧ i ≤ m ∧ (0 ≤ cy ∧ cy ≤ 1) ∧ HOwn w wr g xs ∧ xs.length = L ∧ (∀ k, k < xs.length → Wh.W32 xs[k]!) ∧ lv xs i + Wh.pw i * cy = Wh.vl (Wh.dig B) i + Wh.vl (Wh.dig A) i) (fun _ vi _ => m - (intOf vi).toNat)
  case atStart => exact ⟨0, 0, _, rfl, rfl, Nat.zero_le _, ⟨by decide, by decide⟩, unhide HS0, by simp, fun k hk => by simp at hk; simp [hk]; exact ⟨by decide, by decide⟩, by simp [lv, Wh.vl]⟩
  case round =>
   obtain ⟨i, cy, xs, rfl, rfl, hi, hcy, own, hxl, hw32, hval⟩ := hrel
   have HOW := hide own
   have HXL := hide hxl
   have HW := hide hw32
   have HVA := hide hval
   have HCY := hide hcy
   clear hxl hw32 hval HS0
   by_cases hlt : i < m
   ·have f1 : (i : Int) < (m : Int) := by omega
    have f0 : (0 : Int) ≤ (i : Int) := by omega
    have f3 : IntKind.i64.wrap ((i : Int) + 1) = (i : Int) + 1 := by rw [IntKind.wrap_i64]; omega
    have f4 : (i : Int) < (L : Int) := by have := unhide HL; omega
    have hil : i < xs.length := by have := unhide HXL; have := unhide HL; omega
    have HIL := hide hil
    obtain ⟨ba, oa, rfl, hbl, hca⟩ := unhide H3' (by omega)
    have ca := hca i hlt
    rw [← own.bl.cell (p := ⟨ba, oa + i, none⟩) hbl] at ca
    obtain ⟨x, hx⟩ : ∃ x, Wh.dig B i = x := ⟨_, rfl⟩
    have wx : Wh.W32 x := by rw [← hx]; exact Wh.dig_w _ _
    have ux : IntKind.u64.wrap x = x := by rw [IntKind.wrap_u64]; have := wx.1; have := wx.2; omega
    have us : IntKind.u64.wrap (cy + x) = cy + x := by rw [IntKind.wrap_u64]; have := wx.1; have := wx.2; omega
    rw [hx] at ca
    have HX := hide hx
    by_cases hlm : i < n
    ·have g1 : (i : Int) < (n : Int) := by omega
     obtain ⟨bb, ob, rfl, hbl', hcb⟩ := unhide H3 (by omega)
     have cb := hcb i hlm
     rw [← own.bl.cell (p := ⟨bb, ob + i, none⟩) hbl'] at cb
     obtain ⟨y, hy⟩ : ∃ y, Wh.dig A i = y := ⟨_, rfl⟩
     have wy : Wh.W32 y := by rw [← hy]; exact Wh.dig_w _ _
     have uy : IntKind.u64.wrap y = y := by rw [IntKind.wrap_u64]; have := wy.1; have := wy.2; omega
     obtain ⟨v, hv⟩ : ∃ v, cy + x + y = v := ⟨_, rfl⟩
     have fit : 0 ≤ v ∧ v < 8589934592 := by have := wx.1; have := wx.2; have := wy.1; have := wy.2; omega
     have uv : IntKind.u64.wrap (cy + x + y) = v := by rw [IntKind.wrap_u64]; omega
     have uq : IntKind.u32.wrap v = v % 4294967296 := by rw [IntKind.wrap_u32]
     rw [hy] at cb
     have HY := hide hy
     have HV := hide hv
     have HFIT := hide fit
     have ⟨cr2, fr2⟩ := own.cell hil
     have own3 := own.set i (v % 4294967296)
     obtain ⟨W5, hW5⟩ : ∃ W, wr.setCell ⟨g, i, none⟩ (.int .u32 (v % 4294967296)) = W := ⟨_, rfl⟩
     rw [hW5] at own3
     have HO3 := hide own3
     clear own own3 hca hcb hx hy wx wy hv fit hil hcy
     go_wp2_with fail
     have fit := unhide HFIT
     have hval := unhide HVA
     have hil := unhide HIL
     refine ⟨⟨i + 1, v / 4294967296, xs.set i (v % 4294967296), rfl, by go_num, hlt, ⟨by omega, by omega⟩, unhide HO3, by rw [List.length_set]; exact unhide HXL, w_set (unhide HW) ⟨by omega, by omega⟩, ?_⟩, by simp [intOf]; omega⟩
     rw [lv_next _ hil, Wh.pw_succ, Wh.vl_succ, Wh.vl_succ, unhide HX, unhide HY]
     have st := add32_step (x := x) (y := y) hval
     rw [unhide HV] at st
     rw [st]
     omega
    ·have g1 : ¬ (i : Int) < (n : Int) := by omega
     have hy : Wh.dig A i = 0 := Wh.dig_zero_of (unhide HLA).1 (Int.lt_of_lt_of_le (unhide HLA).2.1 (Wh.pw_mono (by omega)))
     obtain ⟨y, hy0⟩ : ∃ y : Int, 0 = y := ⟨_, rfl⟩
     rw [hy0] at hy
     obtain ⟨v, hv⟩ : ∃ v, cy + x + y = v := ⟨_, rfl⟩
     have fit : 0 ≤ v ∧ v < 8589934592 := by have := wx.1; have := wx.2; omega
     have ev : cy + x = v := by omega
     rw [ev] at us
     have uv : IntKind.u64.wrap (cy + x) = v := by rw [ev]; exact us
     have uq : IntKind.u32.wrap v = v % 4294967296 := by rw [IntKind.wrap_u32]
     have HY := hide hy
     have HV := hide hv
     have HFIT := hide fit
     have ⟨cr2, fr2⟩ := own.cell hil
     have own3 := own.set i (v % 4294967296)
     obtain ⟨W5, hW5⟩ : ∃ W, wr.setCell ⟨g, i, none⟩ (.int .u32 (v % 4294967296)) = W := ⟨_, rfl⟩
     rw [hW5] at own3
     have HO3 := hide own3
     clear own own3 hca hx hy hy0 wx hv fit hil hcy ev us
     go_wp2_with fail
     have fit := unhide HFIT
     have hval := unhide HVA
     have hil := unhide HIL
     refine ⟨⟨i + 1, v / 4294967296, xs.set i (v % 4294967296), rfl, by go_num, hlt, ⟨by omega, by omega⟩, unhide HO3, by rw [List.length_set]; exact unhide HXL, w_set (unhide HW) ⟨by omega, by omega⟩, ?_⟩, by simp [intOf]; omega⟩
     rw [lv_next _ hil, Wh.pw_succ, Wh.vl_succ, Wh.vl_succ, unhide HX, unhide HY]
     have st := add32_step (x := x) (y := y) hval
     rw [unhide HV] at st
     rw [st]
     omega
   ·obtain rfl : m = i := by omega
    have f1 : ¬ (m : Int) < (m : Int) := by omega
    have f0 : (0 : Int) ≤ (m : Int) := by omega
    have hL := unhide HL
    have hxl := unhide HXL
    have f4 : (m : Int) < (L : Int) := by omega
    have hil : m < xs.length := by omega
    have uc : IntKind.u32.wrap cy = cy := by rw [IntKind.wrap_u32]; omega
    have ⟨cr2, fr2⟩ := own.cell hil
    have own3 := own.set m cy
    obtain ⟨W5, hW5⟩ : ∃ W, wr.setCell ⟨g, m, none⟩ (.int .u32 cy) = W := ⟨_, rfl⟩
    rw [hW5] at own3
    have hyl : (xs.set m cy).length = L := by rw [List.length_set, hxl]
    have hrow := own3.hrow (by omega)
    rw [hyl] at hrow
    have hw := w_set (k := m) (unhide HW) (x := cy) ⟨by omega, by omega⟩
    have ev : Wh.vl (fun j => (xs.set m cy)[j]!) L = A + B := by
     have e := lv_next cy hil
     unfold lv at e
     rw [← hL, e]
     have hv := unhide HVA
     unfold lv at hv
     rw [hv, Wh.vl_dig_all (unhide HLB).1 (by exact (unhide HLB).2.1), Wh.vl_dig_all (unhide HLA).1 (by exact Int.lt_of_lt_of_le (unhide HLA).2.1 (Wh.pw_mono (by omega)))]
     omega
    have HTR := hide (trim32_any _ L L _ W5 hrow (fun j hj => hw j (by omega)))
    have HHN : Hid (∀ k, k ≤ L → Wh.Len (Wh.vl (fun j => (xs.set m cy)[j]!) L) k → HNat W5 (.slice (some ⟨g, 0, none⟩) k L) (A + B)) := fun k hk hl => by
     have h := hNat_trim hrow (fun j hj => hw j (by omega)) hk hl
     rw [ev] at h
     exact h
    have HBB := hide own3.bl
    clear hrow hxl own own3 hw ev hyl hil hL hcy
    go_wp2_with fail
    (try simp only [Exit.inBlock, Exit.then])
    (try go_wp2_with fail)
    refine (unhide HTR).mono ?_
    rintro e w9 ⟨k, rfl, hk, hl9, rfl⟩
    have HV9 := hide (unhide HHN k hk hl9)
    clear hl9
    go_wp2
    go_ret
    exact ⟨_, rfl, unhide HV9, unhide HBB⟩
 ·have e1 : ¬ (n : Int) < (m : Int) := by omega
  obtain ⟨L, hL⟩ : ∃ L, n + 1 = L := ⟨_, rfl⟩
  have HL := hide hL
  have qmk := make_halves L (by omega) w
  have S0 := HOwn.start w L
  obtain ⟨W0, hW0⟩ : ∃ W, w.alloc (.cells (halves (List.replicate L 0)).toArray 175) = W := ⟨_, rfl⟩
  obtain ⟨g, hg⟩ : ∃ g, w.heap.size = g := ⟨_, rfl⟩
  rw [hW0, hg] at qmk S0
  have HS0 := hide S0
  have e4 : IntKind.i64.wrap ((n : Int) + 1) = (L : Int) := by rw [IntKind.wrap_i64]; omega
  clear S0 hg hW0 hL
  go_enter Tryz.func180, Tryz.ntmps180
  go_wp2_with fail
  clear qmk
  go_loopw [6, 7] (fun vc vi wr => ∃ (i : Nat) (cy : Int) (xs : List Int), vc = .int .u64 cy ∧ vi = .int .i64 (i : Int) ∧ i ≤ n ∧ (0 ≤ cy ∧ cy ≤ 1) ∧ HOwn w wr g xs ∧ xs.length = L ∧ (∀ k, k < xs.length → Wh.W32 xs[k]!) ∧ lv xs i + Wh.pw i * cy = Wh.vl (Wh.dig A) i + Wh.vl (Wh.dig B) i) (fun _ vi _ => n - (intOf vi).toNat)
  case atStart => exact ⟨0, 0, _, rfl, rfl, Nat.zero_le _, ⟨by decide, by decide⟩, unhide HS0, by simp, fun k hk => by simp at hk; simp [hk]; exact ⟨by decide, by decide⟩, by simp [lv, Wh.vl]⟩
  case round =>
   obtain ⟨i, cy, xs, rfl, rfl, hi, hcy, own, hxl, hw32, hval⟩ := hrel
   have HOW := hide own
   have HXL := hide hxl
   have HW := hide hw32
   have HVA := hide hval
   have HCY := hide hcy
   clear hxl hw32 hval HS0
   by_cases hlt : i < n
   ·have f1 : (i : Int) < (n : Int) := by omega
    have f0 : (0 : Int) ≤ (i : Int) := by omega
    have f3 : IntKind.i64.wrap ((i : Int) + 1) = (i : Int) + 1 := by rw [IntKind.wrap_i64]; omega
    have f4 : (i : Int) < (L : Int) := by have := unhide HL; omega
    have hil : i < xs.length := by have := unhide HXL; have := unhide HL; omega
    have HIL := hide hil
    obtain ⟨ba, oa, rfl, hbl, hca⟩ := unhide H3 (by omega)
    have ca := hca i hlt
    rw [← own.bl.cell (p := ⟨ba, oa + i, none⟩) hbl] at ca
    obtain ⟨x, hx⟩ : ∃ x, Wh.dig A i = x := ⟨_, rfl⟩
    have wx : Wh.W32 x := by rw [← hx]; exact Wh.dig_w _ _
    have ux : IntKind.u64.wrap x = x := by rw [IntKind.wrap_u64]; have := wx.1; have := wx.2; omega
    have us : IntKind.u64.wrap (cy + x) = cy + x := by rw [IntKind.wrap_u64]; have := wx.1; have := wx.2; omega
    rw [hx] at ca
    have HX := hide hx
    by_cases hlm : i < m
    ·have g1 : (i : Int) < (m : Int) := by omega
     obtain ⟨bb, ob, rfl, hbl', hcb⟩ := unhide H3' (by omega)
     have cb := hcb i hlm
     rw [← own.bl.cell (p := ⟨bb, ob + i, none⟩) hbl'] at cb
     obtain ⟨y, hy⟩ : ∃ y, Wh.dig B i = y := ⟨_, rfl⟩
     have wy : Wh.W32 y := by rw [← hy]; exact Wh.dig_w _ _
     have uy : IntKind.u64.wrap y = y := by rw [IntKind.wrap_u64]; have := wy.1; have := wy.2; omega
     obtain ⟨v, hv⟩ : ∃ v, cy + x + y = v := ⟨_, rfl⟩
     have fit : 0 ≤ v ∧ v < 8589934592 := by have := wx.1; have := wx.2; have := wy.1; have := wy.2; omega
     have uv : IntKind.u64.wrap (cy + x + y) = v := by rw [IntKind.wrap_u64]; omega
     have uq : IntKind.u32.wrap v = v % 4294967296 := by rw [IntKind.wrap_u32]
     rw [hy] at cb
     have HY := hide hy
     have HV := hide hv
     have HFIT := hide fit
     have ⟨cr2, fr2⟩ := own.cell hil
     have own3 := own.set i (v % 4294967296)
     obtain ⟨W5, hW5⟩ : ∃ W, wr.setCell ⟨g, i, none⟩ (.int .u32 (v % 4294967296)) = W := ⟨_, rfl⟩
     rw [hW5] at own3
     have HO3 := hide own3
     clear own own3 hca hcb hx hy wx wy hv fit hil hcy
     go_wp2_with fail
     have fit := unhide HFIT
     have hval := unhide HVA
     have hil := unhide HIL
     refine ⟨⟨i + 1, v / 4294967296, xs.set i (v % 4294967296), rfl, by go_num, hlt, ⟨by omega, by omega⟩, unhide HO3, by rw [List.length_set]; exact unhide HXL, w_set (unhide HW) ⟨by omega, by omega⟩, ?_⟩, by simp [intOf]; omega⟩
     rw [lv_next _ hil, Wh.pw_succ, Wh.vl_succ, Wh.vl_succ, unhide HX, unhide HY]
     have st := add32_step (x := x) (y := y) hval
     rw [unhide HV] at st
     rw [st]
     omega
    ·have g1 : ¬ (i : Int) < (m : Int) := by omega
     have hy : Wh.dig B i = 0 := Wh.dig_zero_of (unhide HLB).1 (Int.lt_of_lt_of_le (unhide HLB).2.1 (Wh.pw_mono (by omega)))
     obtain ⟨y, hy0⟩ : ∃ y : Int, 0 = y := ⟨_, rfl⟩
     rw [hy0] at hy
     obtain ⟨v, hv⟩ : ∃ v, cy + x + y = v := ⟨_, rfl⟩
     have fit : 0 ≤ v ∧ v < 8589934592 := by have := wx.1; have := wx.2; omega
     have ev : cy + x = v := by omega
     rw [ev] at us
     have uv : IntKind.u64.wrap (cy + x) = v := by rw [ev]; exact us
     have uq : IntKind.u32.wrap v = v % 4294967296 := by rw [IntKind.wrap_u32]
     have HY := hide hy
     have HV := hide hv
     have HFIT := hide fit
     have ⟨cr2, fr2⟩ := own.cell hil
     have own3 := own.set i (v % 4294967296)
     obtain ⟨W5, hW5⟩ : ∃ W, wr.setCell ⟨g, i, none⟩ (.int .u32 (v % 4294967296)) = W := ⟨_, rfl⟩
     rw [hW5] at own3
     have HO3 := hide own3
     clear own own3 hca hx hy hy0 wx hv fit hil hcy ev us
     go_wp2_with fail
     have fit := unhide HFIT
     have hval := unhide HVA
     have hil := unhide HIL
     refine ⟨⟨i + 1, v / 4294967296, xs.set i (v % 4294967296), rfl, by go_num, hlt, ⟨by omega, by omega⟩, unhide HO3, by rw [List.length_set]; exact unhide HXL, w_set (unhide HW) ⟨by omega, by omega⟩, ?_⟩, by simp [intOf]; omega⟩
     rw [lv_next _ hil, Wh.pw_succ, Wh.vl_succ, Wh.vl_succ, unhide HX, unhide HY]
     have st := add32_step (x := x) (y := y) hval
     rw [unhide HV] at st
     rw [st]
     omega
   ·obtain rfl : n = i := by omega
    have f1 : ¬ (n : Int) < (n : Int) := by omega
    have f0 : (0 : Int) ≤ (n : Int) := by omega
    have hL := unhide HL
    have hxl := unhide HXL
    have f4 : (n : Int) < (L : Int) := by omega
    have hil : n < xs.length := by omega
    have uc : IntKind.u32.wrap cy = cy := by rw [IntKind.wrap_u32]; omega
    have ⟨cr2, fr2⟩ := own.cell hil
    have own3 := own.set n cy
    obtain ⟨W5, hW5⟩ : ∃ W, wr.setCell ⟨g, n, none⟩ (.int .u32 cy) = W := ⟨_, rfl⟩
    rw [hW5] at own3
    have hyl : (xs.set n cy).length = L := by rw [List.length_set, hxl]
    have hrow := own3.hrow (by omega)
    rw [hyl] at hrow
    have hw := w_set (k := n) (unhide HW) (x := cy) ⟨by omega, by omega⟩
    have ev : Wh.vl (fun j => (xs.set n cy)[j]!) L = A + B := by
     have e := lv_next cy hil
     unfold lv at e
     rw [← hL, e]
     have hv := unhide HVA
     unfold lv at hv
     rw [hv, Wh.vl_dig_all (unhide HLA).1 (by exact (unhide HLA).2.1), Wh.vl_dig_all (unhide HLB).1 (by exact Int.lt_of_lt_of_le (unhide HLB).2.1 (Wh.pw_mono (by omega)))]
    have HTR := hide (trim32_any _ L L _ W5 hrow (fun j hj => hw j (by omega)))
    have HHN : Hid (∀ k, k ≤ L → Wh.Len (Wh.vl (fun j => (xs.set n cy)[j]!) L) k → HNat W5 (.slice (some ⟨g, 0, none⟩) k L) (A + B)) := fun k hk hl => by
     have h := hNat_trim hrow (fun j hj => hw j (by omega)) hk hl
     rw [ev] at h
     exact h
    have HBB := hide own3.bl
    clear hrow hxl own own3 hw ev hyl hil hL hcy
    go_wp2_with fail
    (try simp only [Exit.inBlock, Exit.then])
    (try go_wp2_with fail)
    refine (unhide HTR).mono ?_
    rintro e w9 ⟨k, rfl, hk, hl9, rfl⟩
    have HV9 := hide (unhide HHN k hk hl9)
    clear hl9
    go_wp2
    go_ret
    exact ⟨_, rfl, unhide HV9, unhide HBB⟩

set_option maxHeartbeats 4000000 in
set_option maxRecDepth 100000 in
set_option linter.unusedSimpArgs false in
theorem sub32_any (va vb : Value) (A B : Int) (w : World) (ha : HNat w va A) (hb : HNat w vb B) (sa : SmH A) (hBA : B ≤ A) :
  Calls Tryz.prog 181 #[va, vb] w fun e w' => ∃ v, e = .returned v ∧ HNat w' v (A - B) ∧ Below w.heap.size w w' := by
 obtain ⟨a, n, c, rfl, hl, h1, h2, h3⟩ := ha
 obtain ⟨a', m, c', rfl, hl', h1', h2', h3'⟩ := hb
 have hn6 : n ≤ 1000000 := sa.len hl
 have hmn : m ≤ n := by
  rcases Nat.lt_or_ge n m with h | h
  ·have := Wh.Len.lt hl hl' h
   omega
  ·exact h
 have H3 := hide h3
 have H3' := hide h3'
 have HLA := hide hl
 have HLB := hide hl'
 have HBA := hide hBA
 have qmk := make_halves n (by omega) w
 have S0 := HOwn.start w n
 obtain ⟨W0, hW0⟩ : ∃ W, w.alloc (.cells (halves (List.replicate n 0)).toArray 175) = W := ⟨_, rfl⟩
 obtain ⟨g, hg⟩ : ∃ g, w.heap.size = g := ⟨_, rfl⟩
 rw [hW0, hg] at qmk S0
 have HS0 := hide S0
 clear sa h3 h3' hl hl' S0 hg hW0 hBA
 go_enter Tryz.func181, Tryz.ntmps181
 go_wp2_with fail
 clear qmk
 go_loopw [6, 7] (fun vc vi wr => ∃ (i : Nat) (cy : Int) (xs : List Int), vc = .int .u64 cy ∧ vi = .int .i64 (i : Int) ∧ i ≤ n ∧ (0 ≤ cy ∧ cy ≤ 1) ∧ HOwn w wr g xs ∧ xs.length = n ∧ (∀ k, k < xs.length → Wh.W32 xs[k]!) ∧ lv xs i - Wh.pw i * cy = Wh.vl (Wh.dig A) i - Wh.vl (Wh.dig B) i) (fun _ vi _ => n - (intOf vi).toNat)
 case atStart => exact ⟨0, 0, _, rfl, rfl, Nat.zero_le _, ⟨by decide, by decide⟩, unhide HS0, by simp, fun k hk => by simp at hk; simp [hk]; exact ⟨by decide, by decide⟩, by simp [lv, Wh.vl]⟩
 case round =>
  obtain ⟨i, cy, xs, rfl, rfl, hi, hcy, own, hxl, hw32, hval⟩ := hrel
  have HOW := hide own
  have HXL := hide hxl
  have HW := hide hw32
  have HVA := hide hval
  have HCY := hide hcy
  clear hxl hw32 hval HS0
  by_cases hlt : i < n
  ·have f1 : (i : Int) < (n : Int) := by omega
   have f0 : (0 : Int) ≤ (i : Int) := by omega
   have f3 : IntKind.i64.wrap ((i : Int) + 1) = (i : Int) + 1 := by rw [IntKind.wrap_i64]; omega
   have hil : i < xs.length := by have := unhide HXL; omega
   have HIL := hide hil
   obtain ⟨ba, oa, rfl, hbl, hca⟩ := unhide H3 (by omega)
   have ca := hca i hlt
   rw [← own.bl.cell (p := ⟨ba, oa + i, none⟩) hbl] at ca
   obtain ⟨x, hx⟩ : ∃ x, Wh.dig A i = x := ⟨_, rfl⟩
   have wx : Wh.W32 x := by rw [← hx]; exact Wh.dig_w _ _
   have ux : IntKind.u64.wrap x = x := by rw [IntKind.wrap_u64]; have := wx.1; have := wx.2; omega
   obtain ⟨d1, us⟩ : ∃ d1, IntKind.u64.wrap (x - cy) = d1 := ⟨_, rfl⟩
   have us' := us
   rw [IntKind.wrap_u64] at us'
   rw [hx] at ca
   have HX := hide hx
   by_cases hlm : i < m
   ·have g1 : (i : Int) < (m : Int) := by omega
    obtain ⟨bb, ob, rfl, hbl', hcb⟩ := unhide H3' (by omega)
    have cb := hcb i hlm
    rw [← own.bl.cell (p := ⟨bb, ob + i, none⟩) hbl'] at cb
    obtain ⟨y, hy⟩ : ∃ y, Wh.dig B i = y := ⟨_, rfl⟩
    have wy : Wh.W32 y := by rw [← hy]; exact Wh.dig_w _ _
    have uy : IntKind.u64.wrap y = y := by rw [IntKind.wrap_u64]; have := wy.1; have := wy.2; omega
    obtain ⟨v, uv⟩ : ∃ v, IntKind.u64.wrap (d1 - y) = v := ⟨_, rfl⟩
    have uv' := uv
    rw [IntKind.wrap_u64] at uv'
    have fit : (v = x - cy - y ∧ 0 ≤ x - cy - y) ∨ (v = x - cy - y + 18446744073709551616 ∧ x - cy - y < 0) := by have := wx.1; have := wx.2; have := wy.1; have := wy.2; omega
    have fit2 : -4294967296 ≤ x - cy - y ∧ x - cy - y < 4294967296 := by have := wx.1; have := wx.2; have := wy.1; have := wy.2; omega
    rw [hy] at cb
    have uq : IntKind.u32.wrap v = (x - cy - y) % 4294967296 := by rw [IntKind.wrap_u32]; omega
    have ec : v / 9223372036854775808 = -((x - cy - y) / 4294967296) := by omega
    have HY := hide hy
    have HEC := hide ec
    have HFIT2 := hide fit2
    obtain ⟨r, hr⟩ : ∃ r, (x - cy - y) % 4294967296 = r := ⟨_, rfl⟩
    rw [hr] at uq
    have HR := hide hr
    have ⟨cr2, fr2⟩ := own.cell hil
    have own3 := own.set i r
    obtain ⟨W5, hW5⟩ : ∃ W, wr.setCell ⟨g, i, none⟩ (.int .u32 r) = W := ⟨_, rfl⟩
    rw [hW5] at own3
    have HO3 := hide own3
    clear ec hr
    clear own own3 hca hcb hx hy wx wy fit fit2 hil hcy us' uv'
    go_wp2_with fail
    have fit2 := unhide HFIT2
    have ec := unhide HEC
    have hr := unhide HR
    have hval := unhide HVA
    have hil := unhide HIL
    refine ⟨⟨i + 1, v / 9223372036854775808, xs.set i r, rfl, by go_num, hlt, ⟨by omega, by omega⟩, unhide HO3, by rw [List.length_set]; exact unhide HXL, w_set (unhide HW) ⟨by omega, by omega⟩, ?_⟩, by simp [intOf]; omega⟩
    rw [lv_next _ hil, Wh.pw_succ, Wh.vl_succ, Wh.vl_succ, unhide HX, unhide HY, ec, ← hr]
    have st := sub32_step (x := x) (y := y) hval
    rw [st]
    omega
   ·have g1 : ¬ (i : Int) < (m : Int) := by omega
    have hy : Wh.dig B i = 0 := Wh.dig_zero_of (unhide HLB).1 (Int.lt_of_lt_of_le (unhide HLB).2.1 (Wh.pw_mono (by omega)))
    obtain ⟨y, hy0⟩ : ∃ y : Int, 0 = y := ⟨_, rfl⟩
    rw [hy0] at hy
    obtain ⟨v, hv⟩ : ∃ v, d1 = v := ⟨_, rfl⟩
    rw [hv] at us us'
    have fit : (v = x - cy - y ∧ 0 ≤ x - cy - y) ∨ (v = x - cy - y + 18446744073709551616 ∧ x - cy - y < 0) := by have := wx.1; have := wx.2; omega
    have fit2 : -4294967296 ≤ x - cy - y ∧ x - cy - y < 4294967296 := by have := wx.1; have := wx.2; omega
    have uq : IntKind.u32.wrap v = (x - cy - y) % 4294967296 := by rw [IntKind.wrap_u32]; omega
    have ec : v / 9223372036854775808 = -((x - cy - y) / 4294967296) := by omega
    have HY := hide hy
    have HEC := hide ec
    have HFIT2 := hide fit2
    obtain ⟨r, hr⟩ : ∃ r, (x - cy - y) % 4294967296 = r := ⟨_, rfl⟩
    rw [hr] at uq
    have HR := hide hr
    have ⟨cr2, fr2⟩ := own.cell hil
    have own3 := own.set i r
    obtain ⟨W5, hW5⟩ : ∃ W, wr.setCell ⟨g, i, none⟩ (.int .u32 r) = W := ⟨_, rfl⟩
    rw [hW5] at own3
    have HO3 := hide own3
    clear ec hr
    clear own own3 hca hx hy hy0 wx fit fit2 hil hcy us' hv
    go_wp2_with fail
    have fit2 := unhide HFIT2
    have ec := unhide HEC
    have hr := unhide HR
    have hval := unhide HVA
    have hil := unhide HIL
    refine ⟨⟨i + 1, v / 9223372036854775808, xs.set i r, rfl, by go_num, hlt, ⟨by omega, by omega⟩, unhide HO3, by rw [List.length_set]; exact unhide HXL, w_set (unhide HW) ⟨by omega, by omega⟩, ?_⟩, by simp [intOf]; omega⟩
    rw [lv_next _ hil, Wh.pw_succ, Wh.vl_succ, Wh.vl_succ, unhide HX, unhide HY, ec, ← hr]
    have st := sub32_step (x := x) (y := y) hval
    rw [st]
    omega
  ·obtain rfl : n = i := by omega
   have f1 : ¬ (n : Int) < (n : Int) := by omega
   have hxl := unhide HXL
   have hrow := own.hrow (by omega)
   rw [hxl] at hrow
   have hw := unhide HW
   have ev : Wh.vl (fun j => xs[j]!) n = A - B := by
    have hv := unhide HVA
    unfold lv at hv
    rw [Wh.vl_dig_all (unhide HLA).1 (unhide HLA).2.1, Wh.vl_dig_all (unhide HLB).1 (Int.lt_of_lt_of_le (unhide HLB).2.1 (Wh.pw_mono (by omega)))] at hv
    have bd := Wh.vl_bd (f := fun j => xs[j]!) (n := n) (fun j hj => hw j (by omega))
    have hba := unhide HBA
    have h01 : cy = 0 ∨ cy = 1 := by omega
    rcases h01 with e | e
    ·rw [e, Int.mul_zero] at hv; omega
    ·rw [e, Int.mul_one] at hv; omega
   have HTR := hide (trim32_any _ n n _ wr hrow (fun j hj => hw j (by omega)))
   have HHN : Hid (∀ k, k ≤ n → Wh.Len (Wh.vl (fun j => xs[j]!) n) k → HNat wr (.slice (some ⟨g, 0, none⟩) k n) (A - B)) := fun k hk hl => by
    have h := hNat_trim hrow (fun j hj => hw j (by omega)) hk hl
    rw [ev] at h
    exact h
   have HBB := hide own.bl
   clear hrow hxl own hw ev hcy
   go_wp2_with fail
   (try simp only [Exit.inBlock, Exit.then])
   (try go_wp2_with fail)
   refine (unhide HTR).mono ?_
   rintro e w9 ⟨k, rfl, hk, hl9, rfl⟩
   have HV9 := hide (unhide HHN k hk hl9)
   clear hl9
   go_wp2
   go_ret
   exact ⟨_, rfl, unhide HV9, unhide HBB⟩

end Go.Proofs.YtcelbgleajpenaaGreatDoor
/- The checker's sum of numbers with signs. -/
namespace Go.Proofs.YtcelbgleajpenaaGreatDoor
open Go.RowKit Go.Sort

def SgOf (s : Bool) (N : Int) : Prop := N ≠ 0 → s = decide (N < 0)
theorem sum_same {N M : Int} {s : Bool} (h1 : SgOf s N) (h2 : SgOf s M) : (N.natAbs : Int) + (M.natAbs : Int) = ((N + M).natAbs : Int) ∧ SgOf s (N + M) := by
 unfold SgOf at *
 cases s
 ·have a : 0 ≤ N := by
   by_cases e : N = 0
   ·omega
   ·have := h1 e; simp at this; exact this
  have b : 0 ≤ M := by
   by_cases e : M = 0
   ·omega
   ·have := h2 e; simp at this; exact this
  exact ⟨by omega, fun _ => by simp; omega⟩
 ·have a : N ≤ 0 := by
   by_cases e : N = 0
   ·omega
   ·have := h1 e; simp at this; omega
  have b : M ≤ 0 := by
   by_cases e : M = 0
   ·omega
   ·have := h2 e; simp at this; omega
  exact ⟨by omega, fun _ => by simp; omega⟩
theorem sum_apart {N M : Int} {s t : Bool} (h1 : SgOf s N) (h2 : SgOf t M) (hst : s ≠ t) (hle : (M.natAbs : Int) ≤ (N.natAbs : Int)) : (N.natAbs : Int) - (M.natAbs : Int) = ((N + M).natAbs : Int) ∧ SgOf s (N + M) := by
 unfold SgOf at *
 cases s
 ·have et : t = true := by cases t; exact absurd rfl hst; rfl
  subst et
  have a : 0 ≤ N := by
   by_cases e : N = 0
   ·omega
   ·have := h1 e; simp at this; exact this
  have b : M ≤ 0 := by
   by_cases e : M = 0
   ·omega
   ·have := h2 e; simp at this; omega
  exact ⟨by omega, fun _ => by simp; omega⟩
 ·have et : t = false := by cases t; rfl; exact absurd rfl hst
  subst et
  have a : N ≤ 0 := by
   by_cases e : N = 0
   ·omega
   ·have := h1 e; simp at this; omega
  have b : 0 ≤ M := by
   by_cases e : M = 0
   ·omega
   ·have := h2 e; simp at this; exact this
  exact ⟨by omega, fun h => by simp; omega⟩
theorem drew_below (w : World) (k : Nat) : Below w.heap.size w (w.drewN k) := ⟨rfl, rfl, rfl, Nat.le_refl _, fun _ _ => rfl⟩
def SumPost (w : World) (N : Int) (e : Ending) (w' : World) : Prop := ∃ t a n c, e = .returned (.tuple #[.bool t, .slice a n c]) ∧ HNat w' (.slice a n c) (N.natAbs : Int) ∧ SgOf t N ∧ Below w.heap.size w w'

set_option maxHeartbeats 4000000 in
set_option maxRecDepth 100000 in
set_option linter.unusedSimpArgs false in
theorem sum32_any (s t : Bool) (va vb : Value) (N M : Int) (w : World) (ha : HNat w va (N.natAbs : Int)) (hb : HNat w vb (M.natAbs : Int)) (hs : SgOf s N) (ht : SgOf t M) (sa : SmH (N.natAbs : Int)) (sb : SmH (M.natAbs : Int)) :
  Calls Tryz.prog 152 #[.bool s, va, .bool t, vb] w (SumPost w (N + M)) := by
 have HA := hide ha
 have HB := hide hb
 have HSA := hide sa
 have HSB := hide sb
 have HS := hide hs
 have HT := hide ht
 obtain ⟨a, n, c, rfl, _⟩ := ha
 obtain ⟨a2, n2, c2, rfl, _⟩ := hb
 clear sa sb hs ht
 by_cases hst : s = t
 ·subst hst
  have ⟨e1, e2⟩ := sum_same (unhide HS) (unhide HT)
  have HE := hide e1
  have HE2 := hide e2
  clear e1 e2
  go_enter Tryz.func152, Tryz.ntmps152
  go_wp2_with fail
  refine (add32_any _ _ _ _ w (unhide HA) (unhide HB) (unhide HSA) (unhide HSB)).mono ?_
  rintro e w1 ⟨v1, rfl, hv1, hb1⟩
  rw [unhide HE] at hv1
  have HV := hide hv1
  have HB1 := hide hb1
  obtain ⟨a1, n1, c1, rfl, _⟩ := hv1
  clear hb1
  go_wp2
  go_ret2
  exact ⟨_, _, _, _, rfl, unhide HV, unhide HE2, unhide HB1⟩
 ·have hst' : (s == t) = false := by cases s <;> cases t <;> simp_all
  have HCP := hide (cmp32_any _ _ _ _ w (unhide HA) (unhide HB))
  by_cases hlt : (N.natAbs : Int) < (M.natAbs : Int)
  ·have ⟨e1, e2⟩ := sum_apart (unhide HT) (unhide HS) (Ne.symm hst) (Int.le_of_lt hlt)
   rw [Int.add_comm M N] at e1 e2
   have HE := hide e1
   have HE2 := hide e2
   have HLE := hide (Int.le_of_lt hlt)
   rw [Wh.sg_lt hlt] at HCP
   clear e1 e2 hst hlt
   go_enter Tryz.func152, Tryz.ntmps152
   go_wp2_with fail
   refine (unhide HCP).mono ?_
   rintro e w1 ⟨rfl, k, rfl⟩
   go_wp2_with fail
   have bk : Below w.heap.size w (w.drewN k) := drew_below w k
   refine (sub32_any _ _ _ _ (w.drewN k) ((unhide HB).below bk) ((unhide HA).below bk) (unhide HSB) (unhide HLE)).mono ?_
   rintro e w2 ⟨v1, rfl, hv1, hb1⟩
   rw [unhide HE] at hv1
   have HV := hide hv1
   have HB1 := hide (bstep bk hb1)
   obtain ⟨a1, n1, c1, rfl, _⟩ := hv1
   clear hb1 bk
   go_wp2
   go_ret2
   exact ⟨_, _, _, _, rfl, unhide HV, unhide HE2, unhide HB1⟩
  ·have hle : (M.natAbs : Int) ≤ (N.natAbs : Int) := by omega
   have ⟨e1, e2⟩ := sum_apart (unhide HS) (unhide HT) hst hle
   have HE := hide e1
   have HE2 := hide e2
   have HLE := hide hle
   have hsg : (0 : Int) ≤ Wh.sg (N.natAbs : Int) (M.natAbs : Int) := by
    unfold Wh.sg
    rw [if_neg hlt]
    by_cases e : (N.natAbs : Int) = (M.natAbs : Int)
    ·rw [if_pos e]; decide
    ·rw [if_neg e]; decide
   obtain ⟨z, hz⟩ : ∃ z, Wh.sg (N.natAbs : Int) (M.natAbs : Int) = z := ⟨_, rfl⟩
   rw [hz] at HCP hsg
   clear e1 e2 hst hlt hle hz
   go_enter Tryz.func152, Tryz.ntmps152
   go_wp2_with fail
   refine (unhide HCP).mono ?_
   rintro e w1 ⟨rfl, k, rfl⟩
   go_wp2_with fail
   have bk : Below w.heap.size w (w.drewN k) := drew_below w k
   refine (sub32_any _ _ _ _ (w.drewN k) ((unhide HA).below bk) ((unhide HB).below bk) (unhide HSA) (unhide HLE)).mono ?_
   rintro e w2 ⟨v1, rfl, hv1, hb1⟩
   rw [unhide HE] at hv1
   have HV := hide hv1
   have HB1 := hide (bstep bk hb1)
   obtain ⟨a1, n1, c1, rfl, _⟩ := hv1
   clear hb1 bk
   go_wp2
   go_ret2
   exact ⟨_, _, _, _, rfl, unhide HV, unhide HE2, unhide HB1⟩

end Go.Proofs.YtcelbgleajpenaaGreatDoor
