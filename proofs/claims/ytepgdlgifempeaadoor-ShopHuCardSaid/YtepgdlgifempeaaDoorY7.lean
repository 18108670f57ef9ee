/- McNaughton. -/
import Derived.Test.YtepgdlgifempeaaDoorY6
import Derived.OwnWalk
namespace Go.Proofs.YtepgdlgifempeaaDoor
open Go.RowKit Go.Sort Stb Shp

/-- Lengths as numbers from 0 on. -/
def lnat (l : Nat → Int) (i : Nat) : Nat := (l i).toNat
def lmax (l : Nat → Int) : Nat → Int
  | 0 => 0
  | k + 1 => max (lmax l k) (l k)
theorem lmax_ge (l : Nat → Int) : ∀ k i, i < k → l i ≤ lmax l k
  | k + 1, i, h => by
    show l i ≤ max (lmax l k) (l k)
    rcases Nat.lt_or_ge i k with c | c
    · have := lmax_ge l k i c; omega
    · rw [show i = k by omega]; omega
theorem lmax_is (l : Nat → Int) : ∀ k, lmax l k = 0 ∨ ∃ i, i < k ∧ lmax l k = l i
  | 0 => Or.inl rfl
  | k + 1 => by
    have e : lmax l (k + 1) = max (lmax l k) (l k) := rfl
    by_cases c : lmax l k ≤ l k
    · exact Or.inr ⟨k, by omega, by rw [e]; omega⟩
    · rcases lmax_is l k with h | ⟨i, h1, h2⟩
      · exact Or.inl (by rw [e]; omega)
      · exact Or.inr ⟨i, by omega, by rw [e]; omega⟩
theorem lmax_bd {n : Nat} {l : Nat → Int} {m : Int} (h : GoodL n l m) : ∀ k, k ≤ n → 0 ≤ lmax l k ∧ lmax l k ≤ 1000000000 ∧ 0 ≤ Lin.ssum l k ∧ Lin.ssum l k ≤ 1000000000 * k
  | 0, _ => by show (0 : Int) ≤ 0 ∧ (0 : Int) ≤ 1000000000 ∧ (0 : Int) ≤ 0 ∧ (0 : Int) ≤ 1000000000 * ((0 : Nat) : Int); omega
  | k + 1, hk => by
    have ih := lmax_bd h k (by omega)
    have a := h.l k hk
    have e : lmax l (k + 1) = max (lmax l k) (l k) := rfl
    have e2 : Lin.ssum l (k + 1) = Lin.ssum l k + l k := rfl
    rw [e, e2]
    omega
theorem pre_ssum {n : Nat} {l : Nat → Int} {m : Int} (h : GoodL n l m) : ∀ k, k ≤ n → (pre (lnat l) k : Int) = Lin.ssum l k
  | 0, _ => rfl
  | k + 1, hk => by
    have ih := pre_ssum h k (by omega)
    have a := h.l k hk
    show ((pre (lnat l) k + lnat l k : Nat) : Int) = Lin.ssum l k + l k
    unfold lnat at *
    omega
/-- McNaughton's end. -/
def mcE (n : Nat) (l : Nat → Int) (m : Int) : Int := max (lmax l n) ((Lin.ssum l n + m - 1) / m)
theorem mcE_bd {n : Nat} {l : Nat → Int} {m : Int} (h : GoodL n l m) : 0 ≤ mcE n l m ∧ mcE n l m ≤ 60000000019 := by
  have h1 := lmax_bd h n (Nat.le_refl _)
  have h2 := h.few
  have h3 := h.m1
  have h4 := h.m20
  have h5 : (Lin.ssum l n + m - 1) / m ≤ Lin.ssum l n + m - 1 := Int.ediv_le_self _ (by omega)
  unfold mcE
  omega
theorem mcE_all {n : Nat} {l : Nat → Int} {m : Int} (h : GoodL n l m) : Lin.ssum l n ≤ mcE n l m * m := by
  have h3 := h.m1
  have h5 : (Lin.ssum l n + m - 1) / m ≤ mcE n l m := by unfold mcE; omega
  have h6 := Int.lt_ediv_add_one_mul_self (Lin.ssum l n + m - 1) (show 0 < m by omega)
  have h7 := Int.mul_le_mul_of_nonneg_right h5 (show 0 ≤ m by omega)
  rw [Int.add_mul] at h6
  omega
theorem mcE_tight {n : Nat} {l : Nat → Int} {m : Int} (h : GoodL n l m) : mcE n l m = lmax l n ∨ (mcE n l m - 1) * m < Lin.ssum l n := by
  have h3 := h.m1
  by_cases c : (Lin.ssum l n + m - 1) / m ≤ lmax l n
  · exact Or.inl (by unfold mcE; omega)
  · refine Or.inr ?_
    have e : mcE n l m = (Lin.ssum l n + m - 1) / m := by unfold mcE; omega
    have h6 := Int.ediv_mul_le (Lin.ssum l n + m - 1) (show m ≠ 0 by omega)
    rw [e, Int.sub_mul]
    omega
theorem mcE_long {n : Nat} {l : Nat → Int} {m : Int} : lmax l n ≤ mcE n l m := by unfold mcE; omega
def mcE' (n : Nat) (l : Nat → Int) (m : Int) : Nat := (mcE n l m).toNat
/-- What McNaughton leaves. -/
def McPost (w : World) (n : Nat) (l : Nat → Int) (m : Int) (e : Ending) (w' : World) : Prop :=
  Below w.heap.size w w' ∧ ((lcode n l m ≠ 0 ∧ e = .returned (.tuple #[.int .i64 0, .slice none 0 0, .iface 26 (.int .i64 (lcode n l m))])) ∨ (lcode n l m = 0 ∧ ∃ v, e = .returned (.tuple #[.int .i64 (mcE n l m), v, .nilIface]) ∧ OwnQ w' w.heap.size v (mcp (mcE' n l m) (lnat l) n)))

set_option maxHeartbeats 8000000 in
set_option maxRecDepth 100000 in
set_option linter.unusedSimpArgs false in
theorem mcNaughton_any (a : Option Addr) (n c : Nat) (l : Nat → Int) (m : Int) (w : World) (ha : IRow w a n c l) :
    Calls Tryd.prog 20 #[.slice a n c, .int .i64 m] w (McPost w n l m) := by
  have HA := hide ha
  have HC := hide (checkLengths_any a n c l m w ha)
  clear ha
  by_cases ht : lcode n l m = 0
  case neg =>
    rw [errV_not ht] at HC
    obtain ⟨k, hk⟩ : ∃ k, lcode n l m = k := ⟨_, rfl⟩
    rw [hk] at HC ht
    have HK := hide hk
    have HT := hide ht
    clear hk ht
    go_enter Tryd.func20, Tryd.ntmps20
    go_wp2_with fail
    refine (unhide HC).mono ?_
    rintro e w1 ⟨rfl, hb1⟩
    go_wp2
    go_ret3
    refine ⟨hb1, Or.inl ?_⟩
    rw [unhide HK]
    exact ⟨unhide HT, rfl⟩
  rw [ht, errV_zero] at HC
  have HT := hide ht
  have gL := goodL_of ht
  have HG := hide gL
  have hn60 := gL.few
  have hm1 := gL.m1
  have hm20 := gL.m20
  clear ht gL
  go_enter Tryd.func20, Tryd.ntmps20
  go_wp2_with fail
  refine (unhide HC).mono ?_
  rintro e w1 ⟨rfl, hb1⟩
  have HB1 := hide hb1
  clear hb1 HC
  go_wp2_with fail
  go_loopw [8, 9, 21] (fun vx va vi wr => ∃ k : Nat, vi = .int .i64 (k : Int) ∧ vx = .int .i64 (lmax l k) ∧ va = .int .i64 (Lin.ssum l k) ∧ k ≤ n ∧ Below w.heap.size w wr) (fun _ _ vi _ => n - (intOf vi).toNat)
  case atStart => exact ⟨0, rfl, rfl, rfl, Nat.zero_le _, unhide HB1⟩
  case round =>
    obtain ⟨k, rfl, rfl, rfl, hk, hb⟩ := hrel
    by_cases hlt : k < n
    · obtain ⟨b, o, rfl, hbl, hc⟩ := ((unhide HA).below hb).2.2 (by omega)
      have c0 := hc k hlt
      have hbd := lmax_bd (unhide HG) k (by omega)
      have hx0 := (unhide HG).l k hlt
      have F1 : Hid (lmax l (k + 1) = max (lmax l k) (l k)) := rfl
      have F2 : Hid (Lin.ssum l (k + 1) = Lin.ssum l k + l k) := rfl
      obtain ⟨x, hx⟩ : ∃ x, l k = x := ⟨_, rfl⟩
      obtain ⟨M, hM⟩ : ∃ x, lmax l k = x := ⟨_, rfl⟩
      obtain ⟨A, hA⟩ : ∃ x, Lin.ssum l k = x := ⟨_, rfl⟩
      rw [hx] at c0 hx0 F1 F2
      rw [hM] at F1 hbd
      rw [hA] at F2 hbd
      rw [hM, hA]
      obtain ⟨mx, hmx⟩ : ∃ mx, (if M < x then x else M) = mx := ⟨_, rfl⟩
      have e7 : max M x = mx := by rw [← hmx]; split <;> omega
      rw [e7] at F1
      obtain ⟨s, hs⟩ : ∃ s, A + x = s := ⟨_, rfl⟩
      have e8 : IntKind.i64.wrap (A + x) = s := by rw [IntKind.wrap_i64]; omega
      rw [hs] at F2
      have e1 : (0 : Int) ≤ (k : Int) := by omega
      have e2 : (k : Int) < (n : Int) := by omega
      have e6 : IntKind.i64.wrap ((k : Int) + 1) = (k : Int) + 1 := by rw [IntKind.wrap_i64]; omega
      have HB := hide hb
      clear hc hb hbd hx hM hA e7 hs hx0
      go_wp2
      exact ⟨⟨k + 1, by go_num, by rw [unhide F1], by rw [unhide F2], hlt, unhide HB⟩, by simp [intOf]; omega⟩
    · obtain rfl : k = n := by omega
      have e1 : ¬ (k : Int) < (k : Int) := by omega
      have hbd := lmax_bd (unhide HG) k (by omega)
      have hE := mcE_bd (unhide HG)
      have F1 : Hid (mcE k l m = max (lmax l k) ((Lin.ssum l k + m - 1) / m)) := rfl
      have HF := hide (filled_any a k c (mcE' k l m) (lnat l) wr (by
        have h := (unhide HA).below hb
        refine ⟨h.1, h.2.1, fun hp => ?_⟩
        obtain ⟨b, o, h1, h2, h3⟩ := h.2.2 hp
        refine ⟨b, o, h1, h2, fun j hj => ?_⟩
        rw [h3 j hj]
        have := (unhide HG).l j hj
        show some (Value.int .i64 (l j)) = some (Value.int .i64 (((l j).toNat : Nat) : Int))
        rw [show (((l j).toNat : Nat) : Int) = l j by omega]) hn60 (by unfold mcE'; omega) (fun i hi => by
          have h1 := lmax_ge l k i hi
          have h2 := mcE_long (n := k) (l := l) (m := m)
          unfold mcE' lnat
          omega) (fun j hj => by
          have h1 := pre_ssum (unhide HG) j hj
          have h2 := lmax_bd (unhide HG) j hj
          omega))
      rw [show ((mcE' k l m : Nat) : Int) = mcE k l m by unfold mcE'; omega] at HF
      obtain ⟨M, hM⟩ : ∃ x, lmax l k = x := ⟨_, rfl⟩
      obtain ⟨A, hA⟩ : ∃ x, Lin.ssum l k = x := ⟨_, rfl⟩
      obtain ⟨E, hEE⟩ : ∃ x, mcE k l m = x := ⟨_, rfl⟩
      rw [hM, hA, hEE] at F1
      rw [hM, hA] at hbd
      rw [hEE] at HF hE
      rw [hM, hA]
      have HEE := hide hEE
      obtain ⟨s1, hs1⟩ : ∃ s, A + m = s := ⟨_, rfl⟩
      obtain ⟨s2, hs2⟩ : ∃ s, s1 - 1 = s := ⟨_, rfl⟩
      have e2 : IntKind.i64.wrap (A + m) = s1 := by rw [IntKind.wrap_i64]; omega
      have e3 : IntKind.i64.wrap (s1 - 1) = s2 := by rw [IntKind.wrap_i64]; omega
      have e4 : (m == 0) = false := by rw [beq_eq_false_iff_ne]; omega
      have e5 : m ≠ 0 := by omega
      obtain ⟨d, hd⟩ : ∃ d, s2.tdiv m = d := ⟨_, rfl⟩
      have hd' : d = s2 / m := by rw [← hd]; exact Int.tdiv_eq_ediv_of_nonneg (by omega)
      have hd0 : 0 ≤ d := by rw [hd']; exact Int.ediv_nonneg (by omega) (by omega)
      have hd1 : d ≤ s2 := by rw [hd']; exact Int.ediv_le_self _ (by omega)
      have e6 : IntKind.i64.wrap d = d := by rw [IntKind.wrap_i64]; omega
      have e7 : (if M < d then d else M) = E := by
        have := unhide F1
        rw [this, show A + m - 1 = s2 by omega, ← hd']
        split <;> omega
      have HB := hide hb
      have HSZ := hide hb.size
      clear hb hbd hM hA hEE hs1 hs2 F1 hd' hd0 hd1 hE
      go_wp2_with fail
      (try simp only [Exit.inBlock, Exit.then])
      (try go_wp2_with fail)
      refine (unhide HF).mono ?_
      rintro e w2 ⟨v, rfl, hO, hb2⟩
      have HO := hide (hO.base (unhide HSZ))
      have HB2 := hide (below_step (unhide HB) hb2)
      clear hO hb2 HF
      go_wp2
      go_ret3
      refine ⟨unhide HB2, Or.inr ⟨unhide HT, v, ?_, unhide HO⟩⟩
      rw [unhide HEE]
      rfl
end Go.Proofs.YtepgdlgifempeaaDoor
