/- The steps of Euclid's that are sure by the upper 64 bits alone. -/
import Derived.Test.YtcelbgleajpenaaGreatDoorA5
import Derived.Deep.RegionWith
namespace Go.Proofs.YtcelbgleajpenaaGreatDoor
open Go.RowKit Go.Sort Go.Shelf

theorem or_top (u1 u0 : Int) (s : Nat) (hs : s ≤ 63) (h1 : Wd.W64 u1) (h0 : Wd.W64 u0) (h : u1 * 2 ^ s < 18446744073709551616) :
  bits .or .u64 (IntKind.u64.wrap (u1 * 2 ^ s)) (u0 / 2 ^ (64 - s)) = u1 * 2 ^ s + u0 / 2 ^ (64 - s) ∧ 0 ≤ u1 * 2 ^ s + u0 / 2 ^ (64 - s) ∧ u1 * 2 ^ s + u0 / 2 ^ (64 - s) < 18446744073709551616 := by
 have hS := pow_pos2 s
 have hu := Int.mul_nonneg h1.1 (Int.le_of_lt hS)
 obtain ⟨j1, j2, j3, j4, j5⟩ := shl_join u0 0 s hs h0 (by decide) hS
 obtain ⟨k1, k2, k3, k4, k5⟩ := shl_join u1 (u0 / 2 ^ (64 - s)) s hs h1 j2 j3
 have e : u1 * 2 ^ s % 18446744073709551616 = u1 * 2 ^ s := Int.emod_eq_of_lt hu h
 rw [e] at k1 k5
 exact ⟨k1, k5.1, k5.2⟩

def stV (sw : Bool) (p q r s : Int) : Value := .agg #[.int .u64 p, .int .u64 q, .int .u64 r, .int .u64 s, .bool sw]

def Fore (A B : Int) (v : Value) (ok : Bool) : Prop := ∃ (sw : Bool) (p q r s : Int), v = stV sw p q r s ∧ (ok = true → Wd.W64 p ∧ Wd.W64 q ∧ Wd.W64 r ∧ Wd.W64 s ∧
 (sw = false → Wd.Less A B (p * A - q * B) (r * B - s * A)) ∧ (sw = true → Wd.Less A B (p * B - q * A) (r * A - s * B)))

structure Top (A B K X Y : Int) : Prop where
 k0 : 0 < K
 x1 : X < 18446744073709551616
 y0 : 0 ≤ Y
 yx : Y ≤ X
 eA : ∃ al, A = K * X + al ∧ 0 ≤ al ∧ al < K
 eB : ∃ be, B = K * Y + be ∧ 0 ≤ be ∧ be < K

theorem Fore.fin {A B K X Y s x y a0 a1 a2 b0 b1 b2 : Int} (t : Top A B K X Y) (c : Wd.Lh s X Y x y a0 a1 a2 b0 b1 b2) :
  (s = 1 → Fore A B (stV true b0 a0 a1 b1) (b0 != 0)) ∧ (s = -1 → Fore A B (stV false a0 b0 b1 a1) (b0 != 0)) := by
 obtain ⟨al, eA, hal0, hal1⟩ := t.eA
 obtain ⟨be, eB, hbe0, hbe1⟩ := t.eB
 refine ⟨fun hs => ⟨true, _, _, _, _, rfl, fun hok => ?_⟩, fun hs => ⟨false, _, _, _, _, rfl, fun hok => ?_⟩⟩
 ·have F := c.fin (by simpa using hok) t.k0 eA eB hal0 hal1 hbe0 hbe1 t.x1
  exact ⟨F.2.2.2.1, F.2.2.1, F.2.2.2.2.1, F.2.2.2.2.2, (fun h => by cases h), fun _ => F.1 hs⟩
 ·have F := c.fin (by simpa using hok) t.k0 eA eB hal0 hal1 hbe0 hbe1 t.x1
  exact ⟨F.2.2.1, F.2.2.2.1, F.2.2.2.2.2, F.2.2.2.2.1, fun _ => F.2.1 hs, (fun h => by cases h)⟩

theorem top_of {A B : Int} {k s : Nat} (hl : Wd.Len A (k + 2)) (hB0 : 0 ≤ B) (hle : B ≤ A) (hs : s ≤ 63) (hs2 : Wd.dig A (k + 1) * 2 ^ s < 18446744073709551616) :
  Top A B (Wd.pw k * 2 ^ (64 - s)) (Wd.dig A (k + 1) * 2 ^ s + Wd.dig A k / 2 ^ (64 - s)) (Wd.dig B (k + 1) * 2 ^ s + Wd.dig B k / 2 ^ (64 - s)) ∧ Wd.dig B (k + 1) * 2 ^ s < 18446744073709551616 := by
 have hp := Wd.pw_pos k
 have hR := pow_pos2 (64 - s)
 have hS := pow_pos2 s
 have hSR := pow_split s (by omega)
 have tA := vl_top2 (Wd.dig A) k
 have tB := vl_top2 (Wd.dig B) k
 rw [Wd.vl_dig_all hl.1 hl.2.1] at tA
 rw [Wd.vl_dig_all hB0 (Int.lt_of_le_of_lt hle hl.2.1)] at tB
 have bA := Wd.vl_bd (f := Wd.dig A) (n := k) (fun j _ => Wd.dig_w A j)
 have bB := Wd.vl_bd (f := Wd.dig B) (n := k) (fun j _ => Wd.dig_w B j)
 have wA1 := Wd.dig_w A (k + 1)
 have wA0 := Wd.dig_w A k
 have wB1 := Wd.dig_w B (k + 1)
 have wB0 := Wd.dig_w B k
 have hA := Wd.top_approx tA bA.1 bA.2 hSR hR
 have hB := Wd.top_approx tB bB.1 bB.2 hSR hR
 have hK : 0 < Wd.pw k * 2 ^ (64 - s) := Int.mul_pos hp hR
 obtain ⟨o1, o2, o3⟩ := or_top _ _ s hs wA1 wA0 hs2
 have y0 : 0 ≤ Wd.dig B (k + 1) * 2 ^ s + Wd.dig B k / 2 ^ (64 - s) := Int.add_nonneg (Int.mul_nonneg wB1.1 (by omega)) (Int.ediv_nonneg wB0.1 (by omega))
 have yx : Wd.dig B (k + 1) * 2 ^ s + Wd.dig B k / 2 ^ (64 - s) ≤ Wd.dig A (k + 1) * 2 ^ s + Wd.dig A k / 2 ^ (64 - s) := by
  obtain ⟨al, eA, al0, al1⟩ := hA
  obtain ⟨be, eB, be0, be1⟩ := hB
  generalize Wd.dig B (k + 1) * 2 ^ s + Wd.dig B k / 2 ^ (64 - s) = Y at *
  generalize Wd.dig A (k + 1) * 2 ^ s + Wd.dig A k / 2 ^ (64 - s) = X at *
  generalize Wd.pw k * 2 ^ (64 - s) = K at *
  rcases Int.lt_or_le X Y with h | h
  ·exfalso
   have : K * (X + 1) ≤ K * Y := Int.mul_le_mul_of_nonneg_left (by omega) (by omega)
   rw [Int.mul_add] at this
   omega
  ·exact h
 refine ⟨⟨hK, o3, y0, yx, hA, hB⟩, ?_⟩
 have : 0 ≤ Wd.dig B k / 2 ^ (64 - s) := Int.ediv_nonneg wB0.1 (by omega)
 omega

theorem below_five (w : World) (o : Obj) (z : Nat) (v0 v1 v2 v3 v4 : Value) : Below w.heap.size w ((((((((w.alloc o).drewN z).setCell ⟨w.heap.size, 0, none⟩ v0).setCell ⟨w.heap.size, 1, none⟩ v1).setCell ⟨w.heap.size, 2, none⟩ v2).setCell ⟨w.heap.size, 3, none⟩ v3).setCell ⟨w.heap.size, 4, none⟩ v4)) :=
 ((((((((Below.refl _ _).alloc (Nat.le_refl _) o).trans (below_drew _ _ z)).setCell (p := ⟨w.heap.size, 0, none⟩) (Nat.le_refl _) v0).setCell (p := ⟨w.heap.size, 1, none⟩) (Nat.le_refl _) v1).setCell (p := ⟨w.heap.size, 2, none⟩) (Nat.le_refl _) v2).setCell (p := ⟨w.heap.size, 3, none⟩) (Nat.le_refl _) v3).setCell (p := ⟨w.heap.size, 4, none⟩) (Nat.le_refl _) v4)

set_option maxHeartbeats 8000000 in
set_option maxRecDepth 100000 in
theorem foresee_any (a a' : Option Addr) (k n' c c' : Nat) (A B : Int) (w : World) (hl : Wd.Len A (k + 2)) (hra : RowIs w a (k + 2) c (Wd.dig A)) (hl' : Wd.Len B n') (hrb : RowIs w a' n' c' (Wd.dig B)) (hn' : 2 ≤ n') (hle : B ≤ A) :
  Calls Tryz.prog 165 #[.slice a (k + 2 : Nat) c, .slice a' n' c'] w fun e w' => ∃ v ok, e = .returned (.tuple #[v, .bool ok]) ∧ Fore A B v ok ∧ Below w.heap.size w w' := by
 have hnk : n' ≤ k + 2 := by
  rcases Nat.lt_or_ge (k + 2) n' with h | h
  ·have := Wd.Len.lt hl hl' h; omega
  ·exact h
 have wA1 := Wd.dig_w A (k + 1)
 have wA0 := Wd.dig_w A k
 have hu1 : 0 < Wd.dig A (k + 1) := by
  have h1 : Wd.pw (k + 1) ≤ A := by
   rcases hl.2.2 with h | h
   ·omega
   ·exact h
  have := Wd.dig_top (n := k + 1) hl.2.1 h1
  have := wA1.1; omega
 obtain ⟨s, hs, es, hs1, hs2⟩ := lz_bounds (Wd.dig A (k + 1)) hu1 wA1.2
 obtain ⟨T, hv2⟩ := top_of hl hl'.1 hle hs hs2
 obtain ⟨eX, hX0, hX1⟩ := or_top _ _ s hs wA1 wA0 hs2
 have wB1 := Wd.dig_w B (k + 1)
 have wB0 := Wd.dig_w B k
 obtain ⟨eY, hY0, hY1⟩ := or_top _ _ s hs wB1 wB0 hv2
 have HLZ := hide (fun w => Tryz.bits_LeadingZeros64 (Wd.dig A (k + 1)) w (by omega) (by have := wA1.2; omega))
 rw [es] at HLZ
 have hz1 : n' < k + 2 → Wd.dig B (k + 1) = 0 := fun h => dig_zero_above hl' _ (by omega)
 have hz0 : n' < k + 1 → Wd.dig B k = 0 := fun h => dig_zero_above hl' _ (by omega)
 obtain ⟨h1, h2, h3⟩ := hra
 obtain ⟨h1', h2', h3'⟩ := hrb
 obtain ⟨b, o, rfl, hlt, hc⟩ := h3 (by omega)
 obtain ⟨b', o', rfl, hlt', hc'⟩ := h3' (by omega)
 have ca0 := hc k (by omega)
 have ca1 := hc (k + 1) (by omega)
 have HCB := hide hc'
 have HZ1 := hide hz1
 have HZ0 := hide hz0
 clear hc hc' h3 h3' es hs1 hl hl' hle hz1 hz0
 generalize Wd.dig A (k + 1) = u1 at *
 generalize Wd.dig A k = u0 at *
 obtain ⟨v1, hv1⟩ : ∃ v, Wd.dig B (k + 1) = v := ⟨_, rfl⟩
 obtain ⟨v0, hv0⟩ : ∃ v, Wd.dig B k = v := ⟨_, rfl⟩
 rw [hv1] at T hv2 wB1 eY hY0 hY1 HZ1
 rw [hv0] at T wB0 eY hY0 hY1 HZ0
 have ⟨hu10, hu11⟩ := wA1
 have ⟨hu00, hu01⟩ := wA0
 have ⟨hv10, hv11⟩ := wB1
 have ⟨hv00, hv01⟩ := wB0
 obtain ⟨X, hX⟩ : ∃ X, u1 * 2 ^ s + u0 / 2 ^ (64 - s) = X := ⟨_, rfl⟩
 obtain ⟨Y, hY⟩ : ∃ Y, v1 * 2 ^ s + v0 / 2 ^ (64 - s) = Y := ⟨_, rfl⟩
 rw [hX] at T eX hX0 hX1
 rw [hY] at T eY hY0 hY1
 have HT := hide T
 have HHY := hide hY
 have L0 := hide (Wd.Lh.start T.y0 T.yx)
 have i1 : ((k : Int) + 2 - 1).toNat = k + 1 := by omega
 have i2 : ((k : Int) + 2 - 2).toNat = k := by omega
 have l1 : (0 : Int) ≤ (k : Int) + 2 - 1 := by omega
 have l2 : (0 : Int) ≤ (k : Int) + 2 - 2 := by omega
 have m1 : (k : Int) + 2 - 1 < (k : Int) + 2 := by omega
 have m2 : (k : Int) + 2 - 2 < (k : Int) + 2 := by omega
 have HV1 := hide hv1
 have HV0 := hide hv0
 have HBL : Hid (∀ w', Below w.heap.size w w' → Below w.heap.size w w') := fun _ h => h
 clear T hX hY hv1 hv0 wA1 wA0 wB1 wB0 hv2 hs2 HBL
 generalize Wd.pw k * 2 ^ (64 - s) = K at *
 obtain ⟨zv, hzv⟩ : ∃ z : Obj, Obj.cells #[.int .u64 0, .int .u64 0, .int .u64 0, .int .u64 0, .bool false] 214 = z := ⟨_, rfl⟩
 rcases Nat.lt_or_ge n' (k + 2) with hcase | hcase
 ·rcases Nat.lt_or_ge n' (k + 1) with hcase2 | hcase2
  ·have z1 : ((n' : Int) == (k : Int) + 2) = false := by rw [beq_eq_false_iff_ne]; omega
   have z2 : ((n' : Int) == (k : Int) + 2 - 1) = false := by rw [beq_eq_false_iff_ne]; omega
   obtain rfl := unhide HZ1 hcase
   obtain rfl := unhide HZ0 hcase2
   obtain rfl : 0 = Y := by rw [← unhide HHY]; simp
   clear HZ1 HZ0 HCB HV1 HV0 HHY eY
   go_enter Tryz.func165, Tryz.ntmps165
   go_wp2_with fail
   refine (unhide HLZ _).mono ?_
   rintro e w' ⟨rfl, hw'⟩
   obtain rfl := hw'.symm
   go_wp2_with fail
   go_quiet (fail)
   go_wp2_with fail
   clear i1 i2 l1 l2 m1 m2 eX hX0 hY0 hY1 ca0 ca1 hs hu1
   go_loopw [8, 9, 10, 11, 12, 13, 14, 15, 16] (fun vx vy va0 va1 va2 vb0 vb1 vb2 vsw wr => ∃ (x y a0 a1 a2 b0 b1 b2 sg : Int) (sw : Bool) (z : Nat), vx = .int .u64 x ∧ vy = .int .u64 y ∧ va0 = .int .u64 a0 ∧ va1 = .int .u64 a1 ∧ va2 = .int .u64 a2 ∧ vb0 = .int .u64 b0 ∧ vb1 = .int .u64 b1 ∧ vb2 = .int .u64 b2 ∧ vsw = .bool sw ∧
    (sw = true ∧ sg = 1 ∨ sw = false ∧ sg = -1) ∧ Wd.Lh sg X 0 x y a0 a1 a2 b0 b1 b2 ∧ wr = (w.alloc zv).drewN z) (fun _ vy _ _ _ _ _ _ _ _ => (intOf vy).toNat)
   case atStart => exact ⟨_, _, _, _, _, _, _, _, 1, true, _, rfl, rfl, rfl, rfl, rfl, rfl, rfl, rfl, rfl, Or.inl ⟨rfl, rfl⟩, unhide L0, rfl⟩
   case round =>
    obtain ⟨x, y, a0, a1, a2, b0, b1, b2, sg, sw, z, rfl, rfl, rfl, rfl, rfl, rfl, rfl, rfl, rfl, hsg, L, rfl⟩ := hrel
    obtain ⟨y0, yx, xX, a10, a20, b10, b20, bb⟩ := L.bds
    have hx1 : x < 18446744073709551616 := by omega
    have HL := hide L
    by_cases hgo : b2 ≤ y ∧ b1 + b2 ≤ x - y
    ·obtain ⟨g1, g2⟩ := hgo
     have bb' := bb g1
     have ST := L.step g1 g2
     obtain ⟨L', t1, f1, f2, f3, f4⟩ := ST
     have HL' := hide L'
     have hyz : (y == 0) = false := by rw [beq_eq_false_iff_ne]; omega
     have q0 : 0 ≤ x / y := by omega
     have q1 : x / y ≤ x := Int.ediv_le_self y (by omega)
     have r0 : 0 ≤ x % y := Int.emod_nonneg _ (by omega)
     have r1 : x % y < y := Int.emod_lt_of_pos _ (by omega)
     have HR := hide r1
     have w1 : IntKind.u64.wrap (x - y) = x - y := by rw [IntKind.wrap_u64]; omega
     have w2 : IntKind.u64.wrap (b1 + b2) = b1 + b2 := by rw [IntKind.wrap_u64]; omega
     have w3 : IntKind.u64.wrap (x / y * a2) = x / y * a2 := by rw [IntKind.wrap_u64]; omega
     have w4 : IntKind.u64.wrap (x / y * b2) = x / y * b2 := by rw [IntKind.wrap_u64]; omega
     have w5 : IntKind.u64.wrap (a1 + x / y * a2) = a1 + x / y * a2 := by rw [IntKind.wrap_u64]; omega
     have w6 : IntKind.u64.wrap (b1 + x / y * b2) = b1 + x / y * b2 := by rw [IntKind.wrap_u64]; omega
     have w7 : IntKind.u64.wrap (x / y) = x / y := by rw [IntKind.wrap_u64]; omega
     have w8 : IntKind.u64.wrap (x % y) = x % y := by rw [IntKind.wrap_u64]; omega
     have d1 : decide (b2 ≤ y) = true := decide_eq_true g1
     have d2 : decide (b1 + b2 ≤ x - y) = true := decide_eq_true g2
     rcases hsg with ⟨rfl, rfl⟩ | ⟨rfl, rfl⟩
     ·clear L L' bb f1 f2 f3 f4 t1 HL
      go_wp2_with fail
      go_quiet (fail)
      go_wp2_with fail
      exact ⟨⟨_, _, _, _, _, _, _, _, -1, false, _, rfl, rfl, rfl, rfl, rfl, rfl, rfl, rfl, rfl, Or.inr ⟨rfl, rfl⟩, unhide HL', rfl⟩, by have := unhide HR; simp [intOf]; omega⟩
     ·clear L L' bb f1 f2 f3 f4 t1 HL
      go_wp2_with fail
      go_quiet (fail)
      go_wp2_with fail
      exact ⟨⟨_, _, _, _, _, _, _, _, 1, true, _, rfl, rfl, rfl, rfl, rfl, rfl, rfl, rfl, rfl, Or.inl ⟨rfl, rfl⟩, unhide HL', rfl⟩, by have := unhide HR; simp [intOf]; omega⟩
    ·have F := Fore.fin (unhide HT) L
     have ND : decide (b2 ≤ y) = false ∨ (decide (b2 ≤ y) = true ∧ IntKind.u64.wrap (x - y) = x - y ∧ IntKind.u64.wrap (b1 + b2) = b1 + b2 ∧ decide (b1 + b2 ≤ x - y) = false) := by
      by_cases g1 : b2 ≤ y
      ·have := bb g1
       refine Or.inr ⟨decide_eq_true g1, ?_, ?_, decide_eq_false (fun h => hgo ⟨g1, h⟩)⟩
       ·rw [IntKind.wrap_u64]; omega
       ·rw [IntKind.wrap_u64]; omega
      ·exact Or.inl (decide_eq_false g1)
     rcases hsg with ⟨rfl, rfl⟩ | ⟨rfl, rfl⟩
     ·have HF := hide (F.1 rfl)
      clear F L HL bb hgo
      subst hzv
      rcases ND with d1 | ⟨d1, w1, w2, d2⟩
      ·go_wp2
       (try simp only [Exit.inBlock, Exit.then])
       exact bodyPost_ret (v := .tuple #[stV true b0 a0 a1 b1, .bool (b0 != 0)]) (by simp [results, Tryz.results165, go_sem, stV]) rfl ⟨_, _, rfl, unhide HF, below_five _ _ _ _ _ _ _ _⟩
      ·go_wp2
       (try simp only [Exit.inBlock, Exit.then])
       exact bodyPost_ret (v := .tuple #[stV true b0 a0 a1 b1, .bool (b0 != 0)]) (by simp [results, Tryz.results165, go_sem, stV]) rfl ⟨_, _, rfl, unhide HF, below_five _ _ _ _ _ _ _ _⟩
     ·have HF := hide (F.2 rfl)
      clear F L HL bb hgo
      subst hzv
      rcases ND with d1 | ⟨d1, w1, w2, d2⟩
      ·go_wp2
       (try simp only [Exit.inBlock, Exit.then])
       exact bodyPost_ret (v := .tuple #[stV false a0 b0 b1 a1, .bool (b0 != 0)]) (by simp [results, Tryz.results165, go_sem, stV]) rfl ⟨_, _, rfl, unhide HF, below_five _ _ _ _ _ _ _ _⟩
      ·go_wp2
       (try simp only [Exit.inBlock, Exit.then])
       exact bodyPost_ret (v := .tuple #[stV false a0 b0 b1 a1, .bool (b0 != 0)]) (by simp [results, Tryz.results165, go_sem, stV]) rfl ⟨_, _, rfl, unhide HF, below_five _ _ _ _ _ _ _ _⟩
  ·obtain rfl : n' = k + 1 := by omega
   have z1 : (((k + 1 : Nat) : Int) == (k : Int) + 2) = false := by rw [beq_eq_false_iff_ne]; omega
   have z2 : (((k + 1 : Nat) : Int) == (k : Int) + 2 - 1) = true := by rw [beq_iff_eq]; omega
   have z1' : ((k : Int) + 1 == (k : Int) + 2) = false := by rw [beq_eq_false_iff_ne]; omega
   have z2' : ((k : Int) + 1 == (k : Int) + 2 - 1) = true := by rw [beq_iff_eq]; omega
   obtain rfl := unhide HZ1 hcase
   have cb0 := unhide HCB k (by omega)
   rw [unhide HV0] at cb0
   have m3 : (k : Int) + 2 - 2 < (k : Int) + 1 := by omega
   have eY2 : v0 / 2 ^ (64 - s) = Y := by rw [← unhide HHY]; simp
   clear HZ1 HZ0 HCB HV1 HV0 HHY eY
   go_enter Tryz.func165, Tryz.ntmps165
   go_wp2_with fail
   refine (unhide HLZ _).mono ?_
   rintro e w' ⟨rfl, hw'⟩
   obtain rfl := hw'.symm
   go_wp2_with fail
   go_quiet (fail)
   go_wp2_with fail
   clear i1 i2 l1 l2 m1 m2 eX hX0 hY0 hY1 ca0 ca1 hs hu1 cb0 z1 z2 z1' z2' m3 eY2
   go_loopw [8, 9, 10, 11, 12, 13, 14, 15, 16] (fun vx vy va0 va1 va2 vb0 vb1 vb2 vsw wr => ∃ (x y a0 a1 a2 b0 b1 b2 sg : Int) (sw : Bool) (z : Nat), vx = .int .u64 x ∧ vy = .int .u64 y ∧ va0 = .int .u64 a0 ∧ va1 = .int .u64 a1 ∧ va2 = .int .u64 a2 ∧ vb0 = .int .u64 b0 ∧ vb1 = .int .u64 b1 ∧ vb2 = .int .u64 b2 ∧ vsw = .bool sw ∧
    (sw = true ∧ sg = 1 ∨ sw = false ∧ sg = -1) ∧ Wd.Lh sg X Y x y a0 a1 a2 b0 b1 b2 ∧ wr = (w.alloc zv).drewN z) (fun _ vy _ _ _ _ _ _ _ _ => (intOf vy).toNat)
   case atStart => exact ⟨_, _, _, _, _, _, _, _, 1, true, _, rfl, rfl, rfl, rfl, rfl, rfl, rfl, rfl, rfl, Or.inl ⟨rfl, rfl⟩, unhide L0, rfl⟩
   case round =>
    obtain ⟨x, y, a0, a1, a2, b0, b1, b2, sg, sw, z, rfl, rfl, rfl, rfl, rfl, rfl, rfl, rfl, rfl, hsg, L, rfl⟩ := hrel
    obtain ⟨y0, yx, xX, a10, a20, b10, b20, bb⟩ := L.bds
    have hx1 : x < 18446744073709551616 := by omega
    have HL := hide L
    by_cases hgo : b2 ≤ y ∧ b1 + b2 ≤ x - y
    ·obtain ⟨g1, g2⟩ := hgo
     have bb' := bb g1
     have ST := L.step g1 g2
     obtain ⟨L', t1, f1, f2, f3, f4⟩ := ST
     have HL' := hide L'
     have hyz : (y == 0) = false := by rw [beq_eq_false_iff_ne]; omega
     have q0 : 0 ≤ x / y := by omega
     have q1 : x / y ≤ x := Int.ediv_le_self y (by omega)
     have r0 : 0 ≤ x % y := Int.emod_nonneg _ (by omega)
     have r1 : x % y < y := Int.emod_lt_of_pos _ (by omega)
     have HR := hide r1
     have w1 : IntKind.u64.wrap (x - y) = x - y := by rw [IntKind.wrap_u64]; omega
     have w2 : IntKind.u64.wrap (b1 + b2) = b1 + b2 := by rw [IntKind.wrap_u64]; omega
     have w3 : IntKind.u64.wrap (x / y * a2) = x / y * a2 := by rw [IntKind.wrap_u64]; omega
     have w4 : IntKind.u64.wrap (x / y * b2) = x / y * b2 := by rw [IntKind.wrap_u64]; omega
     have w5 : IntKind.u64.wrap (a1 + x / y * a2) = a1 + x / y * a2 := by rw [IntKind.wrap_u64]; omega
     have w6 : IntKind.u64.wrap (b1 + x / y * b2) = b1 + x / y * b2 := by rw [IntKind.wrap_u64]; omega
     have w7 : IntKind.u64.wrap (x / y) = x / y := by rw [IntKind.wrap_u64]; omega
     have w8 : IntKind.u64.wrap (x % y) = x % y := by rw [IntKind.wrap_u64]; omega
     have d1 : decide (b2 ≤ y) = true := decide_eq_true g1
     have d2 : decide (b1 + b2 ≤ x - y) = true := decide_eq_true g2
     rcases hsg with ⟨rfl, rfl⟩ | ⟨rfl, rfl⟩
     ·clear L L' bb f1 f2 f3 f4 t1 HL
      go_wp2_with fail
      go_quiet (fail)
      go_wp2_with fail
      exact ⟨⟨_, _, _, _, _, _, _, _, -1, false, _, rfl, rfl, rfl, rfl, rfl, rfl, rfl, rfl, rfl, Or.inr ⟨rfl, rfl⟩, unhide HL', rfl⟩, by have := unhide HR; simp [intOf]; omega⟩
     ·clear L L' bb f1 f2 f3 f4 t1 HL
      go_wp2_with fail
      go_quiet (fail)
      go_wp2_with fail
      exact ⟨⟨_, _, _, _, _, _, _, _, 1, true, _, rfl, rfl, rfl, rfl, rfl, rfl, rfl, rfl, rfl, Or.inl ⟨rfl, rfl⟩, unhide HL', rfl⟩, by have := unhide HR; simp [intOf]; omega⟩
    ·have F := Fore.fin (unhide HT) L
     have ND : decide (b2 ≤ y) = false ∨ (decide (b2 ≤ y) = true ∧ IntKind.u64.wrap (x - y) = x - y ∧ IntKind.u64.wrap (b1 + b2) = b1 + b2 ∧ decide (b1 + b2 ≤ x - y) = false) := by
      by_cases g1 : b2 ≤ y
      ·have := bb g1
       refine Or.inr ⟨decide_eq_true g1, ?_, ?_, decide_eq_false (fun h => hgo ⟨g1, h⟩)⟩
       ·rw [IntKind.wrap_u64]; omega
       ·rw [IntKind.wrap_u64]; omega
      ·exact Or.inl (decide_eq_false g1)
     rcases hsg with ⟨rfl, rfl⟩ | ⟨rfl, rfl⟩
     ·have HF := hide (F.1 rfl)
      clear F L HL bb hgo
      subst hzv
      rcases ND with d1 | ⟨d1, w1, w2, d2⟩
      ·go_wp2
       (try simp only [Exit.inBlock, Exit.then])
       exact bodyPost_ret (v := .tuple #[stV true b0 a0 a1 b1, .bool (b0 != 0)]) (by simp [results, Tryz.results165, go_sem, stV]) rfl ⟨_, _, rfl, unhide HF, below_five _ _ _ _ _ _ _ _⟩
      ·go_wp2
       (try simp only [Exit.inBlock, Exit.then])
       exact bodyPost_ret (v := .tuple #[stV true b0 a0 a1 b1, .bool (b0 != 0)]) (by simp [results, Tryz.results165, go_sem, stV]) rfl ⟨_, _, rfl, unhide HF, below_five _ _ _ _ _ _ _ _⟩
     ·have HF := hide (F.2 rfl)
      clear F L HL bb hgo
      subst hzv
      rcases ND with d1 | ⟨d1, w1, w2, d2⟩
      ·go_wp2
       (try simp only [Exit.inBlock, Exit.then])
       exact bodyPost_ret (v := .tuple #[stV false a0 b0 b1 a1, .bool (b0 != 0)]) (by simp [results, Tryz.results165, go_sem, stV]) rfl ⟨_, _, rfl, unhide HF, below_five _ _ _ _ _ _ _ _⟩
      ·go_wp2
       (try simp only [Exit.inBlock, Exit.then])
       exact bodyPost_ret (v := .tuple #[stV false a0 b0 b1 a1, .bool (b0 != 0)]) (by simp [results, Tryz.results165, go_sem, stV]) rfl ⟨_, _, rfl, unhide HF, below_five _ _ _ _ _ _ _ _⟩
 ·obtain rfl : n' = k + 2 := by omega
  have cb0 := unhide HCB k (by omega)
  have cb1 := unhide HCB (k + 1) (by omega)
  rw [unhide HV0] at cb0
  rw [unhide HV1] at cb1
  clear HZ1 HZ0 HCB HV1 HV0 HHY
  go_enter Tryz.func165, Tryz.ntmps165
  go_wp2_with fail
  refine (unhide HLZ _).mono ?_
  rintro e w' ⟨rfl, hw'⟩
  obtain rfl := hw'.symm
  go_wp2_with fail
  go_quiet (fail)
  go_wp2_with fail
  go_quiet (fail)
  go_wp2_with fail
  rw [World.drewN_drewN]
  clear i1 i2 l1 l2 m1 m2 eX eY hX0 hY0 hY1 ca0 ca1 hs hu1 cb0 cb1
  go_loopw [8, 9, 10, 11, 12, 13, 14, 15, 16] (fun vx vy va0 va1 va2 vb0 vb1 vb2 vsw wr => ∃ (x y a0 a1 a2 b0 b1 b2 sg : Int) (sw : Bool) (z : Nat), vx = .int .u64 x ∧ vy = .int .u64 y ∧ va0 = .int .u64 a0 ∧ va1 = .int .u64 a1 ∧ va2 = .int .u64 a2 ∧ vb0 = .int .u64 b0 ∧ vb1 = .int .u64 b1 ∧ vb2 = .int .u64 b2 ∧ vsw = .bool sw ∧
   (sw = true ∧ sg = 1 ∨ sw = false ∧ sg = -1) ∧ Wd.Lh sg X Y x y a0 a1 a2 b0 b1 b2 ∧ wr = (w.alloc zv).drewN z) (fun _ vy _ _ _ _ _ _ _ _ => (intOf vy).toNat)
  case atStart => exact ⟨_, _, _, _, _, _, _, _, 1, true, _, rfl, rfl, rfl, rfl, rfl, rfl, rfl, rfl, rfl, Or.inl ⟨rfl, rfl⟩, unhide L0, rfl⟩
  case round =>
   obtain ⟨x, y, a0, a1, a2, b0, b1, b2, sg, sw, z, rfl, rfl, rfl, rfl, rfl, rfl, rfl, rfl, rfl, hsg, L, rfl⟩ := hrel
   obtain ⟨y0, yx, xX, a10, a20, b10, b20, bb⟩ := L.bds
   have hx1 : x < 18446744073709551616 := by omega
   have HL := hide L
   by_cases hgo : b2 ≤ y ∧ b1 + b2 ≤ x - y
   ·obtain ⟨g1, g2⟩ := hgo
    have bb' := bb g1
    have ST := L.step g1 g2
    obtain ⟨L', t1, f1, f2, f3, f4⟩ := ST
    have HL' := hide L'
    have hyz : (y == 0) = false := by rw [beq_eq_false_iff_ne]; omega
    have q0 : 0 ≤ x / y := by omega
    have q1 : x / y ≤ x := Int.ediv_le_self y (by omega)
    have r0 : 0 ≤ x % y := Int.emod_nonneg _ (by omega)
    have r1 : x % y < y := Int.emod_lt_of_pos _ (by omega)
    have HR := hide r1
    have w1 : IntKind.u64.wrap (x - y) = x - y := by rw [IntKind.wrap_u64]; omega
    have w2 : IntKind.u64.wrap (b1 + b2) = b1 + b2 := by rw [IntKind.wrap_u64]; omega
    have w3 : IntKind.u64.wrap (x / y * a2) = x / y * a2 := by rw [IntKind.wrap_u64]; omega
    have w4 : IntKind.u64.wrap (x / y * b2) = x / y * b2 := by rw [IntKind.wrap_u64]; omega
    have w5 : IntKind.u64.wrap (a1 + x / y * a2) = a1 + x / y * a2 := by rw [IntKind.wrap_u64]; omega
    have w6 : IntKind.u64.wrap (b1 + x / y * b2) = b1 + x / y * b2 := by rw [IntKind.wrap_u64]; omega
    have w7 : IntKind.u64.wrap (x / y) = x / y := by rw [IntKind.wrap_u64]; omega
    have w8 : IntKind.u64.wrap (x % y) = x % y := by rw [IntKind.wrap_u64]; omega
    have d1 : decide (b2 ≤ y) = true := decide_eq_true g1
    have d2 : decide (b1 + b2 ≤ x - y) = true := decide_eq_true g2
    rcases hsg with ⟨rfl, rfl⟩ | ⟨rfl, rfl⟩
    ·clear L L' bb f1 f2 f3 f4 t1 HL
     go_wp2_with fail
     go_quiet (fail)
     go_wp2_with fail
     exact ⟨⟨_, _, _, _, _, _, _, _, -1, false, _, rfl, rfl, rfl, rfl, rfl, rfl, rfl, rfl, rfl, Or.inr ⟨rfl, rfl⟩, unhide HL', rfl⟩, by have := unhide HR; simp [intOf]; omega⟩
    ·clear L L' bb f1 f2 f3 f4 t1 HL
     go_wp2_with fail
     go_quiet (fail)
     go_wp2_with fail
     exact ⟨⟨_, _, _, _, _, _, _, _, 1, true, _, rfl, rfl, rfl, rfl, rfl, rfl, rfl, rfl, rfl, Or.inl ⟨rfl, rfl⟩, unhide HL', rfl⟩, by have := unhide HR; simp [intOf]; omega⟩
   ·have F := Fore.fin (unhide HT) L
    have ND : decide (b2 ≤ y) = false ∨ (decide (b2 ≤ y) = true ∧ IntKind.u64.wrap (x - y) = x - y ∧ IntKind.u64.wrap (b1 + b2) = b1 + b2 ∧ decide (b1 + b2 ≤ x - y) = false) := by
     by_cases g1 : b2 ≤ y
     ·have := bb g1
      refine Or.inr ⟨decide_eq_true g1, ?_, ?_, decide_eq_false (fun h => hgo ⟨g1, h⟩)⟩
      ·rw [IntKind.wrap_u64]; omega
      ·rw [IntKind.wrap_u64]; omega
     ·exact Or.inl (decide_eq_false g1)
    rcases hsg with ⟨rfl, rfl⟩ | ⟨rfl, rfl⟩
    ·have HF := hide (F.1 rfl)
     clear F L HL bb hgo
     subst hzv
     rcases ND with d1 | ⟨d1, w1, w2, d2⟩
     ·go_wp2
      (try simp only [Exit.inBlock, Exit.then])
      exact bodyPost_ret (v := .tuple #[stV true b0 a0 a1 b1, .bool (b0 != 0)]) (by simp [results, Tryz.results165, go_sem, stV]) rfl ⟨_, _, rfl, unhide HF, below_five _ _ _ _ _ _ _ _⟩
     ·go_wp2
      (try simp only [Exit.inBlock, Exit.then])
      exact bodyPost_ret (v := .tuple #[stV true b0 a0 a1 b1, .bool (b0 != 0)]) (by simp [results, Tryz.results165, go_sem, stV]) rfl ⟨_, _, rfl, unhide HF, below_five _ _ _ _ _ _ _ _⟩
    ·have HF := hide (F.2 rfl)
     clear F L HL bb hgo
     subst hzv
     rcases ND with d1 | ⟨d1, w1, w2, d2⟩
     ·go_wp2
      (try simp only [Exit.inBlock, Exit.then])
      exact bodyPost_ret (v := .tuple #[stV false a0 b0 b1 a1, .bool (b0 != 0)]) (by simp [results, Tryz.results165, go_sem, stV]) rfl ⟨_, _, rfl, unhide HF, below_five _ _ _ _ _ _ _ _⟩
     ·go_wp2
      (try simp only [Exit.inBlock, Exit.then])
      exact bodyPost_ret (v := .tuple #[stV false a0 b0 b1 a1, .bool (b0 != 0)]) (by simp [results, Tryz.results165, go_sem, stV]) rfl ⟨_, _, rfl, unhide HF, below_five _ _ _ _ _ _ _ _⟩
end Go.Proofs.YtcelbgleajpenaaGreatDoor
/- So many times one number less so many times another one, word by word. -/
namespace Go.Proofs.YtcelbgleajpenaaGreatDoor
open Go.RowKit Go.Sort Go.Shelf

def MixIs (w : World) (g : Nat) (p q ca ch bo : Int) : Prop := w.heap[g]? = some (.cells #[.int .u64 p, .int .u64 q, .int .u64 ca, .int .u64 ch, .int .u64 bo] 236 (0, 0))

theorem MixIs.cells {w : World} {g : Nat} {p q ca ch bo : Int} (h : MixIs w g p q ca ch bo) :
  w.cell? ⟨g, 0, none⟩ = some (.int .u64 p) ∧ w.cell? ⟨g, 1, none⟩ = some (.int .u64 q) ∧ w.cell? ⟨g, 2, none⟩ = some (.int .u64 ca) ∧ w.cell? ⟨g, 3, none⟩ = some (.int .u64 ch) ∧ w.cell? ⟨g, 4, none⟩ = some (.int .u64 bo) ∧
  w.frozen? ⟨g, 2, none⟩ = false ∧ w.frozen? ⟨g, 3, none⟩ = false ∧ w.frozen? ⟨g, 4, none⟩ = false := by
 unfold MixIs at h
 simp [World.cell?, World.frozen?, h]
theorem MixIs.drew {w : World} {g : Nat} {p q ca ch bo : Int} (h : MixIs w g p q ca ch bo) : MixIs w.drew g p q ca ch bo := h
theorem MixIs.set2 {w : World} {g : Nat} {p q ca ch bo x : Int} (h : MixIs w g p q ca ch bo) : MixIs (w.setCell ⟨g, 2, none⟩ (.int .u64 x)) g p q x ch bo := by
 rw [setCell_eq]
 unfold MixIs at *
 simp [mapBlock, Array.getElem?_modify, h, onCells]
theorem MixIs.set3 {w : World} {g : Nat} {p q ca ch bo x : Int} (h : MixIs w g p q ca ch bo) : MixIs (w.setCell ⟨g, 3, none⟩ (.int .u64 x)) g p q ca x bo := by
 rw [setCell_eq]
 unfold MixIs at *
 simp [mapBlock, Array.getElem?_modify, h, onCells]
theorem MixIs.set4 {w : World} {g : Nat} {p q ca ch bo x : Int} (h : MixIs w g p q ca ch bo) : MixIs (w.setCell ⟨g, 4, none⟩ (.int .u64 x)) g p q ca ch x := by
 rw [setCell_eq]
 unfold MixIs at *
 simp [mapBlock, Array.getElem?_modify, h, onCells]

structure Apart (g : Nat) (w w' : World) : Prop where
 os : w'.os = w.os
 tape : w'.tape = w.tape
 output : w'.output = w.output
 size : w'.heap.size = w.heap.size
 block : ∀ k, k ≠ g → w'.heap[k]? = w.heap[k]?
theorem Apart.refl (g : Nat) (w : World) : Apart g w w := ⟨rfl, rfl, rfl, rfl, fun _ _ => rfl⟩
theorem Apart.drew {g : Nat} {w w' : World} (h : Apart g w w') : Apart g w w'.drew := ⟨h.os, h.tape, h.output, h.size, h.block⟩
theorem Apart.set {g : Nat} {w w' : World} (h : Apart g w w') (i : Nat) (v : Value) : Apart g w (w'.setCell ⟨g, i, none⟩ v) := by
 rw [setCell_eq]
 refine ⟨h.os, h.tape, h.output, by simpa [mapBlock] using h.size, fun k hk => ?_⟩
 simp only [mapBlock, Array.getElem?_modify]
 rw [if_neg (Ne.symm hk)]
 exact h.block k hk

set_option maxHeartbeats 4000000 in
set_option maxRecDepth 100000 in
theorem next_any (g : Nat) (p q ca ch bo x y : Int) (w : World) (h : MixIs w g p q ca ch bo) (hp : Wd.W64 p) (hq : Wd.W64 q) (hca : Wd.W64 ca) (hch : Wd.W64 ch) (hb0 : 0 ≤ bo) (hb1 : bo ≤ 1) (hx : Wd.W64 x) (hy : Wd.W64 y) :
  Calls Tryz.prog 190 #[.pointer (some ⟨g, 0, none⟩), .int .u64 x, .int .u64 y] w fun e w' =>
   e = .returned (.int .u64 (((p * x + ca) % 18446744073709551616 - (q * y + ch) % 18446744073709551616 - bo) % 18446744073709551616)) ∧
   MixIs w' g p q ((p * x + ca) / 18446744073709551616) ((q * y + ch) / 18446744073709551616) (bor ((p * x + ca) % 18446744073709551616) ((q * y + ch) % 18446744073709551616 + bo)) ∧ Apart g w w' := by
 have HM := hide h
 obtain ⟨c0, c1, c2, c3, c4, f2, f3, f4⟩ := h.cells
 have H1 := hide (fun w => mulAdd_any p x 0 ca hp hx ⟨by decide, by decide⟩ hca w)
 have H2 := hide (fun w => mulAdd_any q y 0 ch hq hy ⟨by decide, by decide⟩ hch w)
 have m1 := mul_word_lt hp hx
 have m2 := mul_word_lt hq hy
 rw [show p * x + 0 + ca = p * x + ca by omega] at H1
 rw [show q * y + 0 + ch = q * y + ch by omega] at H2
 obtain ⟨s1, e1⟩ : ∃ s, p * x + ca = s := ⟨_, rfl⟩
 obtain ⟨s2, e2⟩ : ∃ s, q * y + ch = s := ⟨_, rfl⟩
 rw [e1] at H1 ⊢
 rw [e2] at H2 ⊢
 have sS := sub64 (s1 % 18446744073709551616) (s2 % 18446744073709551616) bo (by omega) (by omega) (by omega) hb0 hb1
 obtain ⟨hx0, hx1⟩ := hx
 obtain ⟨hy0, hy1⟩ := hy
 clear h e1 e2 m1 m2 hp hq hca hch
 go_enter Tryz.func190, Tryz.ntmps190
 go_wp2_with fail
 go_region_with (go_at_call 143; refine (unhide H1 _).mono ?_; rintro e w' ⟨rfl, rfl⟩)
 all_goals
  go_wp2_with fail
  go_region_with (go_at_call 143; refine (unhide H2 _).mono ?_; rintro e w' ⟨rfl, rfl⟩)
 all_goals
  go_wp2
  go_ret
  refine ⟨rfl, ?_, ?_⟩
  ·exact ((MixIs.set4 (MixIs.set3 (MixIs.set2 (unhide HM)))).drew).drew
  ·exact ((Apart.set (Apart.set (Apart.set (Apart.refl _ _) _ _) _ _) _ _).drew).drew
end Go.Proofs.YtcelbgleajpenaaGreatDoor
