/- McNaughton: the law. -/
import Derived.Test.YtepgdlgifempeaaY8
import Derived.Test.YtepgdlgifempeaaY4
namespace Go.Proofs.Ytepgdlgifempeaa
open Go.RowKit Go.Sort Stb Shp

theorem mcp_all {n : Nat} {l : Nat → Int} {m : Int} (hG : GoodL n l m) : FitsAll n m.toNat (mcE n l m) l (mcp (mcE' n l m) (lnat l) n) := by
  have hE := mcE_bd hG
  have h1 := mcE_all hG
  have h2 := pre_ssum hG n (Nat.le_refl _)
  have hm := hG.m1
  have hl : ∀ i, i < n → (lnat l i : Int) = l i := fun i hi => by have := hG.l i hi; unfold lnat; omega
  have hEE : ((mcE' n l m : Nat) : Int) = mcE n l m := by unfold mcE'; omega
  have hle : ∀ i, i < n → lnat l i ≤ mcE' n l m := fun i hi => by
    have h3 := lmax_ge l n i hi
    have h4 := mcE_long (n := n) (l := l) (m := m)
    have := hl i hi
    omega
  refine ⟨?_, hG.few, Nat.le_trans (mcp_len _ _ n) (by have := hG.few; omega), by omega, hG.l⟩
  rcases Nat.eq_zero_or_pos (mcE' n l m) with e | e
  · have h0 : ∀ i, i < n → lnat l i = 0 := fun i hi => by have := hle i hi; omega
    rw [mcp_none _ _ n h0]
    refine ⟨fun p hp => absurd hp (List.not_mem_nil), List.Pairwise.nil, fun j hj => ?_⟩
    have h3 := hl j hj
    rw [h0 j hj] at h3
    show (0 : Int) = l j
    omega
  · have := fits_mcp (mcE' n l m) (lnat l) (n := n) (m := m.toNat) e hle (by
      have : ((m.toNat * mcE' n l m : Nat) : Int) = mcE n l m * m := by
        rw [Int.natCast_mul, hEE, show ((m.toNat : Nat) : Int) = m by omega, Int.mul_comm]
      omega)
    rw [hEE] at this
    exact ⟨this.each, this.apart, fun j hj => by rw [this.sum j hj]; exact hl j hj⟩
theorem mul_i64 {x y : Int} (h1 : 0 ≤ x) (h2 : x ≤ 100000000000) (h3 : 0 ≤ y) (h4 : y ≤ 100000) : IntKind.i64.wrap (x * y) = x * y := by
  have a := Int.mul_le_mul_of_nonneg_right h2 h3
  have b := Int.mul_nonneg h1 h3
  rw [IntKind.wrap_i64]
  omega

set_option maxHeartbeats 8000000 in
set_option maxRecDepth 100000 in
set_option linter.unusedSimpArgs false in
theorem shopMcNaughtoned_any (a : Option Addr) (n c : Nat) (l : Nat → Int) (m : Int) (w : World) (ha : IRow w a n c l) :
    Calls Try.prog 4 #[.slice a n c, .int .i64 m] w fun e w' => e = .returned (.bool true) ∧ Below w.heap.size w w' := by
  have b1 := ha.1
  have b2 := ha.2.1
  by_cases h1 : 30 < n
  · have e1 : (30 : Int) < (n : Int) := by omega
    clear ha
    go_enter Try.func4, Try.ntmps4
    go_wp2
    go_ret
    exact ⟨rfl, Below.refl _ _⟩
  have e1 : ¬ (30 : Int) < (n : Int) := by omega
  have HA := hide ha
  have HC := hide (mcNaughton_any a n c l m w ha)
  have HD : Hid (∀ W, Calls Try.prog 8 #[] W fun e w' => e = .returned (.bool true) ∧ Below W.heap.size W w') := flowed_any
  clear ha
  go_enter Try.func4, Try.ntmps4
  go_wp2_with fail
  refine (unhide HC).mono ?_
  rintro e w1 ⟨hb1, hp⟩
  rcases hp with ⟨ht, rfl⟩ | ⟨ht, v, rfl, hO⟩
  · have HB := hide hb1
    clear hb1 HC
    generalize lcode n l m = k at ht ⊢
    clear ht
    go_wp2_with fail
    refine (unhide HD w1).mono ?_
    rintro e w2 ⟨rfl, hb2⟩
    have HB2 := hide (below_step (unhide HB) hb2)
    clear hb2
    go_wp2_with fail
    refine (unhide HD w2).mono ?_
    rintro e w3 ⟨rfl, hb3⟩
    have HB3 := hide (below_step (unhide HB2) hb3)
    clear hb3
    go_wp2
    go_ret
    exact ⟨rfl, unhide HB3⟩
  · have hG := goodL_of ht
    have HG := hide hG
    have HO := hide hO
    have HB := hide hb1
    have hE := mcE_bd hG
    have hm1 := hG.m1
    have hm20 := hG.m20
    obtain ⟨E, hEE⟩ : ∃ E, mcE n l m = E := ⟨_, rfl⟩
    rw [hEE] at hE ⊢
    have HEE := hide hEE
    clear hb1 HC ht hO hEE hG
    go_wp2_with fail
    refine (unhide HD w1).mono ?_
    rintro e w2 ⟨rfl, hb2⟩
    have HO2 := hide ((unhide HO).keep hb2)
    have HB2 := hide (below_step (unhide HB) hb2)
    clear hb2 HO HB
    go_wp2_with fail
    go_loopw [8, 9, 10] (fun va vx vi wr => ∃ k : Nat, vi = .int .i64 (k : Int) ∧ vx = .int .i64 (lmax l k) ∧ va = .int .i64 (Lin.ssum l k) ∧ k ≤ n ∧ wr = w2) (fun _ _ vi _ => n - (intOf vi).toNat)
    case atStart => exact ⟨0, rfl, rfl, rfl, Nat.zero_le _, rfl⟩
    case round =>
      obtain ⟨k, rfl, rfl, rfl, hk, rfl⟩ := hrel
      by_cases hlt : k < n
      · obtain ⟨b, o, rfl, hbl, hc⟩ := ((unhide HA).below (unhide HB2)).2.2 (by omega)
        have c0 := hc k hlt
        have hbd := lmax_bd (unhide HG) k (by omega)
        have hx0 := (unhide HG).l k hlt
        have F1 : Hid (lmax l (k + 1) = max (lmax l k) (l k)) := rfl
        have F2 : Hid (Lin.ssum l (k + 1) = Lin.ssum l k + l k) := rfl
        obtain ⟨x, hx⟩ : ∃ x, l k = x := ⟨_, rfl⟩
        obtain ⟨M, hM⟩ : ∃ x, lmax l k = x := ⟨_, rfl⟩
        obtain ⟨A, hA⟩ : ∃ x, Lin.ssum l k = x := ⟨_, rfl⟩
        rw [hx] at c0 hx0 F1 F2
        rw [hM] at F1 hbd
        rw [hA] at F2 hbd
        rw [hM, hA]
        obtain ⟨mx, hmx⟩ : ∃ mx, (if M < x then x else M) = mx := ⟨_, rfl⟩
        have e7 : max M x = mx := by rw [← hmx]; split <;> omega
        rw [e7] at F1
        obtain ⟨s, hs⟩ : ∃ s, A + x = s := ⟨_, rfl⟩
        have e8 : IntKind.i64.wrap (A + x) = s := by rw [IntKind.wrap_i64]; omega
        rw [hs] at F2
        have e2 : (0 : Int) ≤ (k : Int) := by omega
        have e3 : (k : Int) < (n : Int) := by omega
        have e6 : IntKind.i64.wrap ((k : Int) + 1) = (k : Int) + 1 := by rw [IntKind.wrap_i64]; omega
        clear hc hbd hx hM hA e7 hs hx0
        go_wp2
        exact ⟨⟨k + 1, by go_num, by rw [unhide F1], by rw [unhide F2], hlt, trivial⟩, by simp [intOf]; omega⟩
      · obtain rfl : k = n := by omega
        have e2 : ¬ (k : Int) < (k : Int) := by omega
        obtain ⟨pa, pc, rfl, hQ⟩ := (unhide HO2).qrow
        have hbd := lmax_bd (unhide HG) k (by omega)
        have t1 := mcE_tight (unhide HG)
        have t2 := mcE_long (n := k) (l := l) (m := m)
        have t3 := mcE_all (unhide HG)
        have HF := hide (fits_any a k c m.toNat l (mcE k l m) pa pc _ wr ((unhide HA).below (unhide HB2)) hQ (mcp_all (unhide HG)))
        rw [show ((m.toNat : Nat) : Int) = m by omega] at HF
        generalize (mcp (mcE' k l m) (lnat l) k).length = pl at HF ⊢
        rw [unhide HEE] at HF t1 t2 t3
        obtain ⟨M, hM⟩ : ∃ x, lmax l k = x := ⟨_, rfl⟩
        obtain ⟨A, hA⟩ : ∃ x, Lin.ssum l k = x := ⟨_, rfl⟩
        rw [hM, hA] at hbd
        rw [hM] at t1 t2
        rw [hA] at t1 t3
        rw [hM, hA]
        have m1 := mul_i64 hE.1 (by omega) (show 0 ≤ m by omega) (by omega)
        have m2 : IntKind.i64.wrap (E - 1) = E - 1 := by rw [IntKind.wrap_i64]; omega
        obtain ⟨p1, hp1⟩ : ∃ p, E * m = p := ⟨_, rfl⟩
        rw [hp1] at m1 t3
        have m1' : IntKind.i64.wrap (E * m) = p1 := by rw [hp1]; exact m1
        obtain ⟨E1, hE1⟩ : ∃ p, E - 1 = p := ⟨_, rfl⟩
        rw [hE1] at t1
        have m2' : IntKind.i64.wrap (E - 1) = E1 := by rw [m2]; exact hE1
        obtain ⟨p2, hp2⟩ : ∃ p, E1 * m = p := ⟨_, rfl⟩
        rw [hp2] at t1
        have m3' : IntKind.i64.wrap (E1 * m) = p2 := by
          by_cases c0 : E = 0
          · have : p2 = -m := by rw [← hp2, ← hE1, c0]; omega
            rw [hp2, IntKind.wrap_i64]; omega
          · have := mul_i64 (x := E1) (y := m) (by omega) (by omega) (by omega) (by omega)
            rw [this]; exact hp2
        have t2' : M ≤ E := t2
        have t3' : A ≤ p1 := t3
        clear hbd hM hA m1 m2 hp1 hE1 hp2 hQ
        go_wp2_with fail
        (try simp only [Exit.inBlock, Exit.then])
        (try go_wp2_with fail)
        refine (unhide HF).mono ?_
        rintro e w3 ⟨rfl, hb3⟩
        have HB3 := hide (below_step (unhide HB2) hb3)
        clear hb3 HF
        by_cases c1 : E = M
        · have e9 : (E == M) = true := by simp; omega
          clear c1 t1
          go_wp2
          go_ret
          exact ⟨rfl, unhide HB3⟩
        · have e9 : (E == M) = false := by rw [beq_eq_false_iff_ne]; exact c1
          have t1' : p2 < A := by rcases t1 with h | h; exact absurd h c1; exact h
          clear c1 t1
          go_wp2
          go_ret
          exact ⟨rfl, unhide HB3⟩
end Go.Proofs.Ytepgdlgifempeaa
