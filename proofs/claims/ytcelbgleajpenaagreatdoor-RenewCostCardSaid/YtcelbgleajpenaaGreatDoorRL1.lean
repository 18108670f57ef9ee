/- Renewals by the document: LifeCheck, Left. -/
import Derived.Test.YtcelbgleajpenaaGreatDoorRZ4z
namespace Go.Proofs.YtcelbgleajpenaaGreatDoor
open Go.RowKit Go.Sort Go.Shelf

theorem xq_take (qs : List Rat) {m j : Nat} (h : j < m) : xq (qs.take m) j = xq qs j := by
 show (qs.take m)[j]! = qs[j]!
 rw [List.getElem!_eq_getElem?_getD, List.getElem!_eq_getElem?_getD, List.getElem?_take_of_lt h]
set_option maxHeartbeats 16000000 in
set_option maxRecDepth 100000 in
set_option linter.unusedSimpArgs false in
theorem refLife_any (v : Value) (qs : List Rat) (J : Nat) (w : World) (h : RList w v qs) (hq : ∀ j, j < qs.length → RS qs[j]! J) (hJ : qs.length * (J + 1) + 1 + J ≤ 399999) :
  Calls Tryz.prog 27 #[v] w fun e w' => e = .returned (.int .i64 (rnc qs)) ∧ Below w.heap.size w w' := by
 have HC := hide (refLawCheck_any v qs J w h hq hJ)
 obtain ⟨a, c, rfl, h1, h2, h3⟩ := id h
 have HRN : Hid (rnc qs = if chk qs = 0 then (if 0 < (xq qs 0).num then 11 else 0) else chk qs) := rfl
 obtain ⟨rr, hrr⟩ : ∃ r, rnc qs = r := ⟨_, rfl⟩
 rw [hrr] at HRN ⊢
 by_cases hc : chk qs = 0
 ·obtain ⟨p1, p2, _, _⟩ := chk_zero hc
  rw [hc] at HC HRN
  obtain ⟨b, o, rfl, hlt, hcs⟩ := h3 p1
  obtain ⟨x, k0, kx⟩ := hcs 0 p1
  rw [Nat.add_zero] at k0
  have HR2 : Hid (rr = if 0 < (xq qs 0).num then 11 else 0) := by have := unhide HRN; rw [if_pos rfl] at this; exact this
  have HS := hide (fun (W : World) (hW : Below w.heap.size w W) => signz_any x 0 qs[0]! W (kx.below hW))
  have HK : Hid (∀ W, Below w.heap.size w W → W.cell? ⟨b, o, none⟩ = some (.pointer (some ⟨x, 0, none⟩))) := fun W hW => by rw [hW.cell (p := ⟨b, o, none⟩) hlt]; exact k0
  obtain ⟨q, hq'⟩ : ∃ q, qs[0]! = q := ⟨_, rfl⟩
  have hq2 : xq qs 0 = q := hq'
  rw [hq'] at HS
  rw [hq2] at HR2
  obtain ⟨n, hn⟩ : ∃ n, qs.length = n := ⟨_, rfl⟩
  rw [hn] at HC p1 p2 h1 ⊢
  have i0 : (0 : Int) < (n : Int) := by omega
  by_cases hneg : 0 < q.num
  ·have hr11 : rr = 11 := by rw [unhide HR2, if_pos hneg]
   have hsn : q.num.sign = 1 := Int.sign_eq_one_of_pos hneg
   rw [hsn] at HS
   rw [hr11]
   clear h hq hJ hrr hc hcs kx HRN HR2 hq' hq2 hn hneg hsn hr11 k0
   go_enter Tryz.func27, Tryz.ntmps27
   go_wp2_with fail
   refine (unhide HC).mono ?_
   rintro e w1 ⟨rfl, hb1⟩
   have HS1 := hide (unhide HS w1 hb1)
   have k0 := unhide HK w1 hb1
   have HB1 := hide hb1
   clear hb1 HC HS HK
   go_wp2_with fail
   refine (unhide HS1).mono ?_
   rintro e w2 ⟨rfl, hw⟩
   have hw' := hw.symm
   subst hw'
   clear hw
   go_wp2
   go_ret
   exact ⟨rfl, unhide HB1⟩
  ·have hr0 : rr = 0 := by rw [unhide HR2, if_neg hneg]
   obtain ⟨z, hz⟩ : ∃ z, q.num.sign = z := ⟨_, rfl⟩
   have hz1 : ¬ 0 < z := fun h => hneg (by
    rw [← hz] at h
    exact Int.sign_pos_iff.1 h)
   rw [hz] at HS
   rw [hr0]
   clear h hq hJ hrr hc hcs kx HRN HR2 hq' hq2 hn hneg hz hr0 k0
   go_enter Tryz.func27, Tryz.ntmps27
   go_wp2_with fail
   refine (unhide HC).mono ?_
   rintro e w1 ⟨rfl, hb1⟩
   have HS1 := hide (unhide HS w1 hb1)
   have k0 := unhide HK w1 hb1
   have HB1 := hide hb1
   clear hb1 HC HS HK
   go_wp2_with fail
   refine (unhide HS1).mono ?_
   rintro e w2 ⟨rfl, hw⟩
   have hw' := hw.symm
   subst hw'
   clear hw
   go_wp2
   go_ret
   exact ⟨rfl, unhide HB1⟩
 ·have hr : rr = chk qs := by rw [unhide HRN, if_neg hc]
  rw [hr]
  have kz : (chk qs != 0) = true := by simpa using hc
  have kz2 : ¬ chk qs = 0 := hc
  generalize chk qs = k at *
  generalize qs.length = n at *
  clear h hq hJ hrr hc hr HRN h3
  go_enter Tryz.func27, Tryz.ntmps27
  go_wp2_with fail
  refine (unhide HC).mono ?_
  rintro e w1 ⟨rfl, hb1⟩
  have HB1 := hide hb1
  clear hb1 HC
  go_wp2
  go_ret
  exact ⟨rfl, unhide HB1⟩

end Go.Proofs.YtcelbgleajpenaaGreatDoor
