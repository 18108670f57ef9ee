/- The checker's division by a word; numbers of up to two words; a twin. -/
import Derived.Test.YtfpmgnlddlcpoaaGreatDoorB4
namespace Go.Proofs.YtfpmgnlddlcpoaaGreatDoor
open Go.RowKit Go.Sort

theorem or32 {r x : Int} (r0 : 0 ≤ r) (r1 : r < 4294967296) (hx : Wh.W32 x) : bits .or .u64 (r * 4294967296) x = r * 4294967296 + x := by
  obtain ⟨x0, x1⟩ := hx
  exact bits_join .u64 64 (by decide) (fun n h1 h2 => by rw [IntKind.wrap_u64]; omega) 32 _ _ (by omega) (by omega) (by omega) x0 (by omega) (by omega)
theorem small_step {S d r x p V A t u v : Int} (h : S * d + 4294967296 * p * r + (V + p * x) = A) (ht : r * 4294967296 + x = t) (hd : d * u + v = t) : (S + p * (u - 0)) * d + p * v + V = A := by
  rw [← h]
  have e : p * (d * u + v) = p * (r * 4294967296 + x) := by rw [hd, ht]
  grind

set_option maxHeartbeats 4000000 in
set_option maxRecDepth 100000 in
set_option linter.unusedSimpArgs false in
theorem small_any (va : Value) (A d : Int) (w : World) (ha : HNat w va A) (sa : SmH A) (hd : 1 ≤ d) (hd2 : d < 4294967296) :
    Calls Tryz.prog 89 #[va, .int .u32 d] w fun e w' => ∃ v, e = .returned (.tuple #[v, .int .u32 (A % d)]) ∧ HNat w' v (A / d) ∧ Below w.heap.size w w' := by
  obtain ⟨a, n, c, rfl, hl, h1, h2, h3⟩ := ha
  have hn6 : n ≤ 1000000 := sa.len hl
  have qmk := make_halves n (by omega) w
  have S0 := HOwn.start w n
  obtain ⟨W0, hW0⟩ : ∃ W, w.alloc (.cells (halves (List.replicate n 0)).toArray 127) = W := ⟨_, rfl⟩
  obtain ⟨g, hg⟩ : ∃ g, w.heap.size = g := ⟨_, rfl⟩
  rw [hW0, hg] at qmk S0
  have HS0 := hide S0
  have H3 := hide h3
  have HLA := hide hl
  have e4 : IntKind.i64.wrap ((n : Int) - 1) = (n : Int) - 1 := by rw [IntKind.wrap_i64]; omega
  have ud : IntKind.u64.wrap d = d := by rw [IntKind.wrap_u64]; omega
  have dz : (d == 0) = false := by simp; omega
  clear S0 h3 hl hg hW0 sa
  go_enter Tryz.func89, Tryz.ntmps89
  go_wp2_with fail
  clear qmk
  go_loopw [7, 8] (fun vr vi wr => ∃ (m : Nat) (r : Int) (xs : List Int), vr = .int .u64 r ∧ vi = .int .i64 ((m : Int) - 1) ∧ m ≤ n ∧ 0 ≤ r ∧ r < d ∧ HOwn w wr g xs ∧ xs.length = n ∧ (∀ k, k < xs.length → Wh.W32 xs[k]!) ∧ lv xs n * d + Wh.pw m * r + Wh.vl (Wh.dig A) m = A ∧ ∀ k, k < m → xs[k]! = 0) (fun _ vi _ => (intOf vi + 1).toNat)
  case atStart => exact ⟨n, 0, _, rfl, rfl, Nat.le_refl _, by omega, by omega, unhide HS0, by simp, fun k hk => by simp at hk; simp [hk]; exact ⟨by decide, by decide⟩, by unfold lv; rw [Wh.vl_zeros _ _ (fun j hj => by simp [hj]), Wh.vl_dig_all (unhide HLA).1 (unhide HLA).2.1]; simp, fun k hk => by simp [hk]⟩
  case round =>
    obtain ⟨m, r, xs, rfl, rfl, hm, r0, r1, own, hxl, hw32, hval, hzero⟩ := hrel
    have HOW := hide own
    have HXL := hide hxl
    have HW := hide hw32
    have HVA := hide hval
    have HZE := hide hzero
    clear hxl hw32 hval hzero HS0
    by_cases hm0 : m = 0
    · subst hm0
      have hrow := (unhide HOW).hrow (by have := unhide HXL; omega)
      rw [unhide HXL] at hrow
      have hA : lv xs n * d + r = A := by have h := unhide HVA; simpa [Wh.vl, Wh.pw] using h
      have hq : lv xs n = A / d ∧ r = A % d := by
        rw [← hA]
        constructor
        · rw [Int.add_comm, Int.add_mul_ediv_right _ _ (by omega), Int.ediv_eq_zero_of_lt r0 r1]; omega
        · rw [Int.add_comm, Int.add_mul_emod_self_right, Int.emod_eq_of_lt r0 r1]
      have HTR := hide (trim32_any _ n n _ wr hrow (fun j hj => unhide HW j (by have := unhide HXL; omega)))
      have HHN : Hid (∀ k, k ≤ n → Wh.Len (Wh.vl (fun j => xs[j]!) n) k → HNat wr (.slice (some ⟨g, 0, none⟩) k n) (A / d)) := fun k hk hl => by
        have h := hNat_trim hrow (fun j hj => unhide HW j (by have := unhide HXL; omega)) hk hl
        have hv := hq.1
        unfold lv at hv
        rw [hv] at h
        exact h
      have HBB := hide own.bl
      have ur : IntKind.u32.wrap r = r := by rw [IntKind.wrap_u32]; omega
      have HR := hide hq.2
      clear hrow hA hq own
      go_wp2_with fail
      (try simp only [Exit.inBlock, Exit.then])
      go_wp2_with fail
      refine (unhide HTR).mono ?_
      rintro e w9 ⟨k, rfl, hk, hl9, rfl⟩
      have HV9 := hide (unhide HHN k hk hl9)
      clear hl9
      go_wp2
      exact bodyPost_ret (v := .tuple #[.slice (some ⟨g, 0, none⟩) k n, .int .u32 r]) (by simp [results, Tryz.results89, go_sem]) rfl ⟨_, by rw [← unhide HR], unhide HV9, unhide HBB⟩
    · obtain ⟨k, hk⟩ : ∃ k, m = k + 1 := ⟨m - 1, by omega⟩
      subst hk
      have f0 : (0 : Int) ≤ (k : Int) := by omega
      have f1 : (k : Int) < (n : Int) := by omega
      have f2 : ((k + 1 : Nat) : Int) - 1 = (k : Int) := by omega
      have f3 : IntKind.i64.wrap ((k : Int) - 1) = (k : Int) - 1 := by rw [IntKind.wrap_i64]; omega
      rw [f2]
      obtain ⟨b, o, rfl, hbl, hca⟩ := unhide H3 (by omega)
      have ca := hca k (by omega)
      rw [← own.bl.cell (p := ⟨b, o + k, none⟩) hbl] at ca
      have hkl : k < xs.length := by have := unhide HXL; omega
      have ⟨cr2, fr2⟩ := own.cell hkl
      obtain ⟨x, hx⟩ : ∃ x, Wh.dig A k = x := ⟨_, rfl⟩
      have wx : Wh.W32 x := by rw [← hx]; exact Wh.dig_w _ _
      rw [hx] at ca
      have ux : IntKind.u64.wrap x = x := by rw [IntKind.wrap_u64]; have := wx.1; have := wx.2; omega
      have us : IntKind.u64.wrap (r * 4294967296) = r * 4294967296 := by rw [IntKind.wrap_u64]; omega
      have uo := or32 r0 (by omega) wx
      obtain ⟨t, ht⟩ : ∃ t, r * 4294967296 + x = t := ⟨_, rfl⟩
      rw [ht] at uo
      have t0 : 0 ≤ t := by have := wx.1; omega
      have t1 : t < d * 4294967296 := by have := wx.2; omega
      have td0 : 0 ≤ t / d := Int.ediv_nonneg t0 (by omega)
      have td1 : t / d < 4294967296 := Int.ediv_lt_of_lt_mul (by omega) (by rw [Int.mul_comm]; exact t1)
      have tm0 : 0 ≤ t % d := Int.emod_nonneg _ (by omega)
      have tm1 : t % d < d := Int.emod_lt_of_pos _ (by omega)
      have tde := Int.mul_ediv_add_emod t d
      obtain ⟨u, hu⟩ : ∃ u, t / d = u := ⟨_, rfl⟩
      obtain ⟨v, hv⟩ : ∃ v, t % d = v := ⟨_, rfl⟩
      rw [hu] at td0 td1 tde
      rw [hv] at tm0 tm1 tde
      have utd : t.tdiv d = u := by rw [Int.tdiv_eq_ediv_of_nonneg t0]; exact hu
      have uu : IntKind.u64.wrap u = u := by rw [IntKind.wrap_u64]; omega
      have um : u % 4294967296 = u := by omega
      have uvv : t % d = v := hv
      have own3 := own.set k u
      obtain ⟨W5, hW5⟩ : ∃ W, wr.setCell ⟨g, k, none⟩ (.int .u32 u) = W := ⟨_, rfl⟩
      rw [hW5] at own3
      have HO3 := hide own3
      have HX := hide hx
      have HT := hide ht
      have HTDE := hide tde
      have HKL := hide hkl
      have HTT := hide (⟨td0, td1, tm0, tm1⟩ : 0 ≤ u ∧ u < 4294967296 ∧ 0 ≤ v ∧ v < d)
      clear own own3 hca hx ht wx tde hkl td0 td1 tm0 tm1 t1 hm0 f2
      go_wp2_with fail
      have hkl := unhide HKL
      have tt := unhide HTT
      refine ⟨⟨k, v, xs.set k u, by rw [hv], rfl, by omega, tt.2.2.1, tt.2.2.2, unhide HO3, by rw [List.length_set]; exact unhide HXL, w_set (unhide HW) ⟨tt.1, tt.2.1⟩, ?_, fun j hj => by rw [get_set (by omega)]; exact unhide HZE j (by omega)⟩, by simp [intOf] <;> omega⟩
      have hval := unhide HVA
      rw [Wh.pw_succ, Wh.vl_succ, unhide HX] at hval
      rw [lv_set _ hkl (by have := unhide HXL; omega), unhide HZE k (by omega)]
      exact small_step hval (unhide HT) (unhide HTDE)
end Go.Proofs.YtfpmgnlddlcpoaaGreatDoor
