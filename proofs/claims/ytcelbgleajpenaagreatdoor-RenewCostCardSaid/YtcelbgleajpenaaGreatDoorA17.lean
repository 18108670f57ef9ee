/- chance.Least. -/
import Derived.Test.YtcelbgleajpenaaGreatDoorA16
import Derived.BigQuiet
namespace Go.Proofs.YtcelbgleajpenaaGreatDoor
open Go.RowKit Go.Sort Go.Shelf

theorem chk_zero {qs : List Rat} (h : chk qs = 0) : 0 < qs.length ∧ qs.length ≤ 101 ∧ (∀ j, j < qs.length → 0 ≤ qs[j]!.num) ∧ qsum qs qs.length = 1 := by
 unfold chk at h
 split at h
 ·omega
 ·rename_i h1
  split at h
  ·omega
  ·rename_i h2
   split at h
   ·rename_i h3
    exact ⟨by omega, by omega, fun j hj => Int.not_lt.1 (fun hn => h2 ⟨j, hj, hn⟩), h3⟩
   ·omega

end Go.Proofs.YtcelbgleajpenaaGreatDoor
/- chance.trimmed. -/
namespace Go.Proofs.YtcelbgleajpenaaGreatDoor
open Go.RowKit Go.Sort Go.Shelf

def tlen (qs : List Rat) : Nat → Nat
 | 0 => 0
 | 1 => 1
 | n + 2 => if qs[n + 1]!.num = 0 then tlen qs (n + 1) else n + 2
theorem tlen_le (qs : List Rat) : ∀ n, tlen qs n ≤ n
 | 0 => Nat.le_refl _
 | 1 => Nat.le_refl _
 | n + 2 => by
  unfold tlen
  split
  ·exact Nat.le_trans (tlen_le qs (n + 1)) (by omega)
  ·exact Nat.le_refl _

theorem LawIs.take {w : World} {a : Option Addr} {n c : Nat} {qs : List Rat} (h : LawIs w (.slice a n c) qs) (m : Nat) (hm : m ≤ qs.length) : LawIs w (.slice a m c) (qs.take m) := by
 obtain ⟨a', c', e, h1, h2, h3⟩ := h
 injection e with e1 e2 e3
 subst e1; subst e3
 have hl : (qs.take m).length = m := by rw [List.length_take]; omega
 refine ⟨a, c, by rw [hl], by rw [hl]; omega, h2, fun hp => ?_⟩
 rw [hl] at hp
 obtain ⟨b, o, ea, hb, hc⟩ := h3 (by omega)
 refine ⟨b, o, ea, hb, fun j hj => ?_⟩
 rw [hl] at hj
 have e : (qs.take m)[j]! = qs[j]! := by
  rw [List.getElem!_eq_getElem?_getD, List.getElem!_eq_getElem?_getD, List.getElem?_take_of_lt hj]
 rw [e]
 exact hc j (by omega)

set_option maxHeartbeats 4000000 in
set_option maxRecDepth 100000 in
set_option linter.unusedSimpArgs false in
theorem trimmedL_any (a : Option Addr) (c : Nat) (qs : List Rat) (w : World) (h : LawIs w (.slice a qs.length c) qs) (hp : 0 < qs.length) :
  Calls Tryz.prog 146 #[.slice a qs.length c] w fun e w' => e = .returned (.slice a (tlen qs qs.length) c) ∧ Below w.heap.size w w' := by
 have HL := hide h
 obtain ⟨a', c', e, h1, h2, h3⟩ := h
 injection e with e1 e2 e3
 subst e1; subst e3
 obtain ⟨b, o, rfl, hblt, hcs⟩ := h3 hp
 have HCS := hide hcs
 clear h3 e2 hcs
 have HP := hide hp
 clear hp
 go_enter Tryz.func146, Tryz.ntmps146
 go_wp2_with fail
 go_loopw [3] (fun vi wr => ∃ (n : Nat), vi = .int .i64 n ∧ n ≤ qs.length ∧ 0 < n ∧ tlen qs n = tlen qs qs.length ∧ Below w.heap.size w wr) (fun vi _ => (intOf vi).toNat)
 case atStart => exact ⟨qs.length, rfl, Nat.le_refl _, unhide HP, rfl, Below.refl _ _⟩
 case round =>
  obtain ⟨n, rfl, hn, hn0, htl, bl⟩ := hrel
  have hnc : n ≤ c := by omega
  by_cases hn1 : n = 1
  ·subst hn1
   have e1 : tlen qs 1 = 1 := rfl
   rw [e1] at htl
   have HTL := hide htl
   have HBL := hide bl
   clear htl bl HCS e1
   go_wp2
   (try simp only [Exit.inBlock, Exit.then])
   go_ret
   exact ⟨by rw [← unhide HTL]; rfl, unhide HBL⟩
  ·have hn2 : 1 < n := by omega
   have hd : decide ((1 : Int) < (n : Int)) = true := decide_eq_true (by omega)
   have hidx : n - 1 < qs.length := by omega
   obtain ⟨s', b1, b2, m1, d1, m2, d2, k0, k1, k2, r⟩ := unhide HCS (n - 1) hidx
   rw [← bl.cell (p := ⟨b, o + (n - 1) * 3, none⟩) hblt] at k0
   rw [← bl.cell (p := ⟨b, o + (n - 1) * 3 + 1, none⟩) hblt] at k1
   rw [← bl.cell (p := ⟨b, o + (n - 1) * 3 + 2, none⟩) hblt] at k2
   have HSG := hide (sign_any _ _ wr (r.below bl))
   have etl : tlen qs n = if qs[n - 1]!.num = 0 then tlen qs (n - 1) else n := by
    obtain ⟨m, rfl⟩ : ∃ m, n = m + 2 := ⟨n - 2, by omega⟩
    rw [tlen]; rfl
   have hj0 : (0 : Int) ≤ (n : Int) - 1 := by omega
   have hj1 : (n : Int) - 1 < (qs.length : Int) := by omega
   have ht1 : ((n : Int) - 1).toNat = n - 1 := by omega
   obtain ⟨q, hq⟩ : ∃ q, qs[n - 1]! = q := ⟨_, rfl⟩
   rw [hq] at HSG etl
   have HBL := hide bl
   have hr0 : -9223372036854775808 ≤ (n : Int) - 1 := by omega
   have hr1 : (n : Int) - 1 ≤ 9223372036854775807 := by omega
   by_cases hz : q.num = 0
   ·rw [if_pos hz] at etl
    have hsz : q.num.sign = 0 := by rw [hz]; rfl
    rw [hsz] at HSG
    have HN := hide (show tlen qs (n - 1) = tlen qs qs.length from etl ▸ htl)
    have hle : n - 1 ≤ qs.length := by omega
    clear r bl HCS etl htl hq hz hsz
    go_wp2_with fail
    refine (unhide HSG).mono ?_
    rintro e w2 ⟨rfl, hb2⟩
    have HB2 := hide (below_step (unhide HBL) hb2)
    clear hb2 k0 k1 k2
    go_wp2_with fail
    exact ⟨⟨n - 1, by go_num, hle, by omega, unhide HN, unhide HB2⟩, by simp [intOf]; omega⟩
   ·rw [if_neg hz] at etl
    have hsz : q.num.sign ≠ 0 := fun h => hz (Int.sign_eq_zero_iff_zero.1 h)
    have hsb := sign_bd q.num
    obtain ⟨x, hx⟩ : ∃ x, q.num.sign = x := ⟨_, rfl⟩
    rw [hx] at HSG hsz hsb
    obtain ⟨hsb0, hsb1⟩ := hsb
    have hxb : (x == 0) = false := by simpa using hsz
    have HN := hide (show n = tlen qs qs.length from etl ▸ htl)
    clear r bl HCS etl htl hq hz hsz hx
    go_wp2_with fail
    refine (unhide HSG).mono ?_
    rintro e w2 ⟨rfl, hb2⟩
    have HB2 := hide (below_step (unhide HBL) hb2)
    clear hb2 k0 k1 k2
    go_wp2
    (try simp only [Exit.inBlock, Exit.then])
    go_ret
    exact ⟨by rw [← unhide HN]; rfl, unhide HB2⟩
end Go.Proofs.YtcelbgleajpenaaGreatDoor
