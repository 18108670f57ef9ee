/- Numbers shifted: times a power of 2, and back, word by word. -/
import Derived.Test.YtdicbnchkfclaaaDoorW7
import Derived.Test.YtdicbnchkfclaaaDoorM3
namespace Go.Proofs.YtdicbnchkfclaaaDoor
open Go.RowKit Go.Sort Go.Shelf

/-- What one word's shift to the left comes to, with what is carried on. -/
theorem shl_join (x cr : Int) (s : Nat) (hs : s ≤ 63) (hx : Wd.W64 x) (h0 : 0 ≤ cr) (h1 : cr < 2 ^ s) :
    bits .or .u64 (IntKind.u64.wrap (x * 2 ^ s)) cr = x * 2 ^ s % 18446744073709551616 + cr ∧ 0 ≤ x / 2 ^ (64 - s) ∧ x / 2 ^ (64 - s) < 2 ^ s ∧
      x * 2 ^ s = x / 2 ^ (64 - s) * 18446744073709551616 + x * 2 ^ s % 18446744073709551616 ∧ Wd.W64 (x * 2 ^ s % 18446744073709551616 + cr) := by
  obtain ⟨hx0, hx1⟩ := hx
  have hS := pow_pos2 s
  have hR := pow_pos2 (64 - s)
  have hSR := pow_split s (by omega)
  have hG0 : 0 ≤ x / 2 ^ (64 - s) := Int.ediv_nonneg hx0 (by omega)
  have hG : x / 2 ^ (64 - s) < 2 ^ s := (Int.ediv_lt_iff_lt_mul hR).2 (by rw [hSR]; exact hx1)
  have hdiv : x * 2 ^ s / 18446744073709551616 = x / 2 ^ (64 - s) := by
    rw [← hSR, Int.mul_comm x, Int.mul_ediv_mul_of_pos _ _ hS]
  have hd := Int.emod_add_mul_ediv (x * 2 ^ s) 18446744073709551616
  have hdv : (x * 2 ^ s % 18446744073709551616) % 2 ^ s = 0 := by
    have : x * 2 ^ s % 18446744073709551616 = 2 ^ s * (x % 2 ^ (64 - s)) := by
      rw [← hSR, Int.mul_comm x, Int.mul_emod_mul_of_pos _ _ hS]
    rw [this, Int.mul_emod_right]
  have hlt : x * 2 ^ s % 18446744073709551616 + 2 ^ s ≤ 18446744073709551616 := by
    have e : x * 2 ^ s % 18446744073709551616 = 2 ^ s * (x % 2 ^ (64 - s)) := by
      rw [← hSR, Int.mul_comm x, Int.mul_emod_mul_of_pos _ _ hS]
    have m1 := Int.emod_lt_of_pos x hR
    have : 2 ^ s * (x % 2 ^ (64 - s) + 1) ≤ 2 ^ s * 2 ^ (64 - s) := Int.mul_le_mul_of_nonneg_left (by omega) (by omega)
    rw [Int.mul_add, Int.mul_one, hSR, ← e] at this
    exact this
  have hm0 : 0 ≤ x * 2 ^ s % 18446744073709551616 := by omega
  refine ⟨?_, hG0, hG, by rw [hdiv] at hd; omega, by omega, by omega⟩
  rw [IntKind.wrap_u64]
  exact bits_join .u64 64 (by decide) (fun n h1 h2 => by rw [IntKind.wrap_u64]; omega) s _ _ hm0 hdv (by omega) h0 h1 (by omega)

theorem shl_val {dk : Array Int} {g : Nat → Int} {i : Nat} {x cr S q r : Int} (hi : i < dk.size) (hx : g i = x) (hq : x * S = q * 18446744073709551616 + r)
    (hv : Wd.vl (fun j => dk[j]!) i + Wd.pw i * cr = Wd.vl g i * S) :
    Wd.vl (fun j => (dk.setIfInBounds i (r + cr))[j]!) (i + 1) + Wd.pw (i + 1) * q = Wd.vl g (i + 1) * S := by
  rw [vl_set dk i _ hi, Wd.vl_succ, hx, Wd.pw_succ]
  have e : (Wd.vl g i + Wd.pw i * x) * S = Wd.vl g i * S + Wd.pw i * (x * S) := by rw [Int.add_mul, Int.mul_assoc]
  rw [e, hq, ← hv]
  generalize Wd.pw i = p
  grind

set_option maxHeartbeats 1000000 in
set_option maxRecDepth 100000 in
theorem shifted_any (a : Option Addr) (n c : Nat) (A : Int) (s : Nat) (w : World) (hl : Wd.Len A n) (hr : RowIs w a n c (Wd.dig A)) (hA : Sm A) (hs : s ≤ 63) :
    Calls Tryd.prog 90 #[.slice a n c, .int .u64 (s : Int)] w fun e w' => e = .returned (.slice (some ⟨w.heap.size, 0, none⟩) (n + 1 : Nat) (n + 1 : Nat)) ∧
      ∃ d : Array Int, d.size = n + 1 ∧ OwnRow w' w.heap.size d ∧ (∀ j, j < n + 1 → Wd.W64 d[j]!) ∧ Wd.vl (fun j => d[j]!) (n + 1) = A * 2 ^ s ∧ d[n]! < 2 ^ s ∧ Below w.heap.size w w' ∧ w'.heap.size = w.heap.size + 1 := by
  have hn := hA.len hl
  have hmk := make_row ((n : Int) + 1) (by omega) (by omega)
  have en : ((n : Int) + 1).toNat = n + 1 := by omega
  rw [en] at hmk
  obtain ⟨W, hW⟩ : ∃ W, w.alloc (.cells (zrow (n + 1)) 79) = W := ⟨_, rfl⟩
  have hown : OwnRow W w.heap.size (zs (n + 1)) := by rw [← hW]; exact own_made w (n + 1)
  have hbW : Below w.heap.size w W := by rw [← hW]; exact (Below.refl _ _).alloc (Nat.le_refl _) _
  have hsz : W.heap.size = w.heap.size + 1 := by rw [← hW]; simp
  have hnc := hr.1
  have hcc := hr.2.1
  have hS := pow_pos2 s
  have HA := hide hr
  have HW := hide hW
  have HL := hide hl
  have HSZ := hide hsz
  clear hr hW hl hA hsz
  go_enter Tryd.func90, Tryd.ntmps90
  go_wp2
  rw [unhide HW]
  go_loopw [6, 15] (fun vc vi wr => ∃ (i : Nat) (cr : Int) (dk : Array Int), vc = .int .u64 cr ∧ vi = .int .i64 i ∧ 0 ≤ cr ∧ cr < 2 ^ s ∧ i ≤ n ∧ dk.size = n + 1 ∧ wr = putRow enc W w.heap.size 0 dk ∧
      (∀ j, j < n + 1 → Wd.W64 dk[j]!) ∧ Wd.vl (fun j => dk[j]!) i + Wd.pw i * cr = Wd.vl (Wd.dig A) i * 2 ^ s) (fun _ vi _ => n - (intOf vi).toNat)
  case atStart => exact ⟨0, 0, zs (n + 1), rfl, rfl, by decide, hS, Nat.zero_le _, zs_size _, (putRow_self _ _ _ _ _ hown.holds).symm, fun j _ => by rw [zs_get]; exact ⟨by decide, by decide⟩, by simp [Wd.vl]⟩
  case round =>
    obtain ⟨i, cr, dk, rfl, rfl, hc0, hc1, hi, hs', hwr, hw, hv⟩ := hrel
    have hown' : OwnRow wr w.heap.size dk := by rw [hwr]; exact hown.put (by rw [zs_size]; exact hs')
    have hbr : Below w.heap.size w wr := by rw [hwr]; exact hbW.trans (below_putRow dk (Nat.le_refl _))
    have hszr : wr.heap.size = w.heap.size + 1 := by rw [hwr, ← unhide HSZ]; simp [putRow, mapBlock]
    by_cases hlt : i < n
    · obtain ⟨x, hx⟩ : ∃ x, Wd.dig A i = x := ⟨_, rfl⟩
      have hxw := Wd.dig_w A i
      rw [hx] at hxw
      have hfa : wr.frozen? ⟨w.heap.size, i, none⟩ = false := by simpa using (hown'.holds i (by omega)).2
      have hce : ∃ u, wr.cell? ⟨w.heap.size, i, none⟩ = some u := ⟨_, by simpa using (hown'.holds i (by omega)).1⟩
      obtain ⟨u, hce⟩ := hce
      obtain ⟨b, o, hae, hblt, hca⟩ := row_at (unhide HA) hbr hlt
      rw [hx] at hca
      subst hae
      obtain ⟨j1, j2, j3, j4, j5⟩ := shl_join x cr s hs hxw hc0 hc1
      have FIN : Hid (∃ (i' : Nat) (cr' : Int) (dk' : Array Int), Value.int .u64 (x / 2 ^ (64 - s)) = .int .u64 cr' ∧ Value.int .i64 ((i : Int) + 1) = .int .i64 i' ∧ 0 ≤ cr' ∧ cr' < 2 ^ s ∧ i' ≤ n ∧ dk'.size = n + 1 ∧
          wr.setCell ⟨w.heap.size, i, none⟩ (.int .u64 (bits .or .u64 (IntKind.u64.wrap (x * 2 ^ s)) cr)) = putRow enc W w.heap.size 0 dk' ∧
          (∀ j, j < n + 1 → Wd.W64 dk'[j]!) ∧ Wd.vl (fun j => dk'[j]!) i' + Wd.pw i' * cr' = Wd.vl (Wd.dig A) i' * 2 ^ s) := by
        rw [j1]
        refine ⟨i + 1, _, dk.setIfInBounds i (x * 2 ^ s % 18446744073709551616 + cr), rfl, by go_num, j2, j3, hlt, by simpa using hs', ?_, words_set hw j5 (by omega), shl_val (by omega) hx j4 hv⟩
        rw [hwr]; simpa using putRow_set enc W w.heap.size 0 dk i (x * 2 ^ s % 18446744073709551616 + cr) (by omega)
      obtain ⟨hx0, hx1⟩ := hxw
      clear hv hw hx hwr hown hown' hs' j1 j2 j3 j4 j5 HA hbr HL hbW
      go_wp2
      exact ⟨unhide FIN, by simp [intOf]; omega⟩
    · obtain rfl : i = n := by omega
      have hfa : wr.frozen? ⟨w.heap.size, i, none⟩ = false := by simpa using (hown'.holds i (by omega)).2
      have hce : ∃ u, wr.cell? ⟨w.heap.size, i, none⟩ = some u := ⟨_, by simpa using (hown'.holds i (by omega)).1⟩
      obtain ⟨u, hce⟩ := hce
      have hlw : cr < 18446744073709551616 := by
        have := pow_split s (by omega)
        have h3 := pow_pos2 (64 - s)
        have h4 : (2 : Int) ^ s * 1 ≤ 2 ^ s * 2 ^ (64 - s) := Int.mul_le_mul_of_nonneg_left (by omega) (by omega)
        omega
      have FIN : Hid (∃ d : Array Int, d.size = i + 1 ∧ OwnRow (wr.setCell ⟨w.heap.size, i, none⟩ (.int .u64 cr)) w.heap.size d ∧ (∀ j, j < i + 1 → Wd.W64 d[j]!) ∧ Wd.vl (fun j => d[j]!) (i + 1) = A * 2 ^ s ∧ d[i]! < 2 ^ s ∧ Below w.heap.size w (wr.setCell ⟨w.heap.size, i, none⟩ (.int .u64 cr)) ∧ (wr.setCell ⟨w.heap.size, i, none⟩ (.int .u64 cr)).heap.size = w.heap.size + 1) := by
        have e : wr.setCell ⟨w.heap.size, i, none⟩ (.int .u64 cr) = putRow enc W w.heap.size 0 (dk.setIfInBounds i cr) := by
          rw [hwr]; simpa using putRow_set enc W w.heap.size 0 dk i cr (by omega)
        rw [e]
        refine ⟨dk.setIfInBounds i cr, by simpa using hs', hown.put (by rw [zs_size]; simpa using hs'), words_set hw ⟨hc0, hlw⟩ (by omega), ?_, ?_, hbW.trans (below_putRow _ (Nat.le_refl _)), ?_⟩
        · rw [vl_set dk i cr (by omega), hv, Wd.vl_dig_all (unhide HL).1 (unhide HL).2.1]
        · rw [getElem!_set_same dk i cr (by omega)]; exact hc1
        · rw [← unhide HSZ]; simp [putRow, mapBlock]
      clear hv hw hown hown' HL hwr HA hbr hbW hs'
      go_wp2
      go_ret
      exact ⟨rfl, unhide FIN⟩

theorem or_comm64 (x y : Int) : bits .or .u64 x y = bits .or .u64 y x := by
  simp only [bits, BitVec.or_comm]

/-- What one word's shift to the right comes to, with what is carried on from above. -/
theorem shr_join (x r : Int) (s : Nat) (hs : s ≤ 63) (hx : Wd.W64 x) (h0 : 0 ≤ r) (h1 : r < 2 ^ s) :
    bits .or .u64 (x / 2 ^ s) (r * 2 ^ (64 - s)) = (r * 18446744073709551616 + x) / 2 ^ s ∧ IntKind.u64.wrap (x * 2 ^ (64 - s)) = (r * 18446744073709551616 + x) % 2 ^ s * 2 ^ (64 - s) ∧
      r * 2 ^ (64 - s) < 18446744073709551616 ∧ 0 ≤ r * 2 ^ (64 - s) := by
  obtain ⟨hx0, hx1⟩ := hx
  have hS := pow_pos2 s
  have hR := pow_pos2 (64 - s)
  have hSR := pow_split s (by omega)
  have e0 : r * 18446744073709551616 + x = x + 2 ^ s * (r * 2 ^ (64 - s)) := by rw [← hSR]; grind
  have q0 : 0 ≤ x / 2 ^ s := Int.ediv_nonneg hx0 (by omega)
  have q1 : x / 2 ^ s < 2 ^ (64 - s) := (Int.ediv_lt_iff_lt_mul hS).2 (by rw [Int.mul_comm, hSR]; exact hx1)
  have r0 : 0 ≤ r * 2 ^ (64 - s) := Int.mul_nonneg h0 (by omega)
  have r1 : r * 2 ^ (64 - s) + 2 ^ (64 - s) ≤ 18446744073709551616 := by
    have : (r + 1) * 2 ^ (64 - s) ≤ 2 ^ s * 2 ^ (64 - s) := Int.mul_le_mul_of_nonneg_right (by omega) (by omega)
    rw [hSR, Int.add_mul, Int.one_mul] at this; exact this
  refine ⟨?_, ?_, by omega, r0⟩
  · rw [e0, Int.add_mul_ediv_left _ _ (by omega), Int.add_comm (x / 2 ^ s)]
    rw [show bits .or .u64 (x / 2 ^ s) (r * 2 ^ (64 - s)) = bits .or .u64 (r * 2 ^ (64 - s)) (x / 2 ^ s) from or_comm64 _ _]
    exact bits_join .u64 64 (by decide) (fun n h1 h2 => by rw [IntKind.wrap_u64]; omega) (64 - s) _ _ r0 (Int.mul_emod_left _ _) (by omega) q0 q1 (by omega)
  · rw [IntKind.wrap_u64, e0, Int.add_mul_emod_self_left, Int.mul_comm _ ((2 : Int) ^ (64 - s)), Int.mul_comm _ ((2 : Int) ^ (64 - s))]
    have : (18446744073709551616 : Int) = 2 ^ (64 - s) * 2 ^ s := by rw [Int.mul_comm, hSR]
    rw [this, Int.mul_emod_mul_of_pos _ _ hR]

set_option maxHeartbeats 1000000 in
set_option maxRecDepth 100000 in
theorem unshift_any (g o c : Nat) (d : Array Int) (n s : Nat) (w : World) (hn : d.size = n) (hH : Holds enc w g o d) (hd : ∀ j, j < n → Wd.W64 d[j]!) (hnc : n ≤ 9223372036854775807) (hs : s ≤ 63) :
    Calls Tryd.prog 92 #[.slice (some ⟨g, o, none⟩) n c, .int .u64 (s : Int)] w fun e w' => e = .returned (.tuple #[]) ∧
      ∃ (d' : Array Int) (k : Nat), d'.size = n ∧ w' = (putRow enc w g o d').drewN k ∧ (∀ j, j < n → Wd.W64 d'[j]!) ∧ Wd.vl (fun j => d'[j]!) n = Wd.vl (fun j => d[j]!) n / 2 ^ s := by
  have hb0 := pow_pos2 s
  go_enter Tryd.func92, Tryd.ntmps92
  go_wp2
  go_loopw [4, 5] (fun vr vi wr => ∃ (m : Nat) (rest : Int) (dk : Array Int) (k : Nat), vr = .int .u64 (rest * 2 ^ (64 - s)) ∧ vi = .int .i64 ((m : Int) - 1) ∧ m ≤ n ∧ 0 ≤ rest ∧ rest < 2 ^ s ∧ dk.size = n ∧ wr = (putRow enc w g o dk).drewN k ∧
      (∀ j, j < n → Wd.W64 dk[j]!) ∧ (∀ j, j < m → dk[j]! = d[j]!) ∧ Wd.vl (fun j => d[m + j]!) (n - m) = Wd.vl (fun j => dk[m + j]!) (n - m) * 2 ^ s + rest) (fun _ vi _ => (intOf vi + 1).toNat)
  case atStart => exact ⟨n, 0, d, 0, by rw [Int.zero_mul], rfl, Nat.le_refl _, by decide, hb0, hn, (putRow_self _ _ _ _ _ hH).symm, hd, fun _ _ => rfl, by simp [Wd.vl]⟩
  case round =>
    obtain ⟨m, rest, dk, k, rfl, rfl, hm, hr0, hr1, hs', hwr, hw, hrest, hv⟩ := hrel
    by_cases hm0 : m = 0
    · subst hm0
      have e1 : Wd.vl (fun j => d[0 + j]!) (n - 0) = Wd.vl (fun j => d[j]!) n := by simp
      have e2 : Wd.vl (fun j => dk[0 + j]!) (n - 0) = Wd.vl (fun j => dk[j]!) n := by simp
      rw [e1, e2] at hv
      have f2 : Wd.vl (fun j => dk[j]!) n = Wd.vl (fun j => d[j]!) n / 2 ^ s := by rw [hv, Int.add_comm, Int.add_mul_ediv_right _ _ (by omega), Int.ediv_eq_zero_of_lt hr0 hr1]; omega
      have F2 := hide f2
      have HW := hide hw
      have HWR := hide hwr
      clear hv e1 e2 f2 hw hrest hd hH hwr
      go_wp2
      go_end0
      exact ⟨rfl, dk, k, hs', unhide HWR, unhide HW, unhide F2⟩
    · obtain ⟨i, rfl⟩ : ∃ i, m = i + 1 := ⟨m - 1, by omega⟩
      obtain ⟨x, hx⟩ : ∃ x, d[i]! = x := ⟨_, rfl⟩
      have hxw := hd i (by omega)
      rw [hx] at hxw
      have hdx : dk[i]! = x := by rw [hrest i (by omega), hx]
      have hca : wr.cell? ⟨g, o + i, none⟩ = some (.int .u64 x) := by rw [hwr, ← hdx]; exact cell?_putRow _ _ _ _ d dk hH (by omega) i (by omega)
      have hfa : wr.frozen? ⟨g, o + i, none⟩ = false := by rw [hwr, World.frozen?_drewN, frozen?_putRow]; exact (hH i (by omega)).2
      have ei : ((i : Int) + 1 - 1).toNat = i := by omega
      have en : ((i + 1 : Nat) : Int) - 1 = (i : Int) := by omega
      obtain ⟨j1, j2, j3, j4⟩ := shr_join x rest s hs hxw hr0 hr1
      have FIN : Hid (∀ k2, ∃ (m' : Nat) (rest' : Int) (dk' : Array Int) (k' : Nat), Value.int .u64 (IntKind.u64.wrap (x * 2 ^ (64 - s))) = .int .u64 (rest' * 2 ^ (64 - s)) ∧ Value.int .i64 ((i : Int) - 1) = .int .i64 ((m' : Int) - 1) ∧ m' ≤ n ∧ 0 ≤ rest' ∧ rest' < 2 ^ s ∧ dk'.size = n ∧
          (wr.drewN k2).setCell ⟨g, o + i, none⟩ (.int .u64 (bits .or .u64 (x / 2 ^ s) (rest * 2 ^ (64 - s)))) = (putRow enc w g o dk').drewN k' ∧
          (∀ j, j < n → Wd.W64 dk'[j]!) ∧ (∀ j, j < m' → dk'[j]! = d[j]!) ∧ Wd.vl (fun j => d[m' + j]!) (n - m') = Wd.vl (fun j => dk'[m' + j]!) (n - m') * 2 ^ s + rest') := by
        intro k2
        rw [j1, j2]
        refine ⟨i, _, dk.setIfInBounds i ((rest * 18446744073709551616 + x) / 2 ^ s), k + k2, rfl, rfl, by omega, Int.emod_nonneg _ (by omega), Int.emod_lt_of_pos _ hb0, by simpa using hs', ?_, words_set hw (div_word hr0 hr1 hxw) (by omega), fun j hj => ?_, divInto_val (by omega) hs' hx hv⟩
        · rw [hwr]; exact put_drewN w g o k dk i _ (by omega) k2
        · rw [getElem!_set_other dk i j _ (by omega)]; exact hrest j (by omega)
      obtain ⟨hx0, hx1⟩ := hxw
      rw [en]
      generalize rest * 2 ^ (64 - s) = cr at *
      clear hv hw hrest hd hH hwr hx hdx en hm0 j1 j2
      go_wp2
      exact ⟨unhide FIN 0, by simp [intOf]⟩
end Go.Proofs.YtdicbnchkfclaaaDoor
