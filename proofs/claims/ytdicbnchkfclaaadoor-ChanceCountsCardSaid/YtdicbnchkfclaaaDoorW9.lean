/- Fractions in memory: settled, lowered, made of two whole numbers; the sign. -/
import Derived.Test.YtdicbnchkfclaaaDoorW8
namespace Go.Proofs.YtdicbnchkfclaaaDoor
open Go.RowKit Go.Sort Go.Shelf

/-- A lower number as it is kept: none for 1. -/
def low (d : Nat) : Int := if d = 1 then 0 else d
/-- A fraction in memory. -/
def RatIs (w : World) (v : Value) (q : Rat) : Prop := ∃ ov un, v = .agg #[.bool (decide (q.num < 0)), ov, un] ∧ NatIs w ov (q.num.natAbs : Int) ∧ NatIs w un (low q.den)

theorem RatIs.below {w w' : World} {v : Value} {q : Rat} (h : RatIs w v q) (hb : Below w.heap.size w w') : RatIs w' v q := by
  obtain ⟨ov, un, e, h1, h2⟩ := h
  exact ⟨ov, un, e, h1.below hb, h2.below hb⟩

theorem rat_parts (z : Int) (U : Nat) (hU : U ≠ 0) (h : z.natAbs.gcd U = 1) : (mkRat z U).num = z ∧ (mkRat z U).den = U := by
  have e : mkRat z U = ⟨z, U, hU, h⟩ := (Rat.mk_eq_mkRat z U hU h).symm
  rw [e]; exact ⟨rfl, rfl⟩

/-- A number with a sign. -/
def sn (s : Bool) (N : Int) : Int := if s then -N else N
theorem sn_abs (s : Bool) (N : Int) : (sn s N).natAbs = N.natAbs := by cases s <;> simp [sn]
theorem sn_neg {s : Bool} {N : Int} (h : 0 < N) : decide (sn s N < 0) = s := by cases s <;> simp [sn] <;> omega

set_option maxHeartbeats 1000000 in
theorem settled_any (s : Bool) (vo vu : Value) (O : Int) (U : Nat) (w : World) (ho : NatIs w vo O) (hu : NatIs w vu U) (hU : U ≠ 0) (hc : O.natAbs.gcd U = 1) :
    Calls Tryd.prog 45 #[.bool s, vo, vu] w fun e w' => ∃ v, e = .returned v ∧ RatIs w' v (mkRat (sn s O) U) ∧ Below w.heap.size w w' := by
  have ⟨p1, p2⟩ := rat_parts (sn s O) U hU (by rw [sn_abs]; exact hc)
  have HU := hide hu
  have HO := hide ho
  have HI := hide (isOne_any vu U (w.alloc (.cells #[.bool false, .slice none 0 0, .slice none 0 0] 36)) (hu.below ((Below.refl _ _).alloc (Nat.le_refl _) _)))
  have hO := ho.nn
  obtain ⟨a, n, c, rfl, hl, hra⟩ := ho
  obtain ⟨a', n', c', rfl, hl', hrb⟩ := hu
  have HP1 := hide p1
  have HP2 := hide p2
  by_cases hz : n = 0
  · subst hz
    have hO0 := hl.zero
    subst hO0
    have hU1 : U = 1 := by simpa using hc
    subst hU1
    clear hl hl' hra hrb p1 p2 HI hc
    go_enter Tryd.func45, Tryd.ntmps45
    go_wp2
    refine bodyPost_ret (v := .agg #[.bool false, .slice none 0 0, .slice none 0 0]) (by simp [results, Tryd.results45, go_sem]) rfl ⟨_, rfl, ?_, (Below.refl _ _).alloc (Nat.le_refl _) _⟩
    refine ⟨.slice none 0 0, .slice none 0 0, ?_, ?_, ?_⟩
    · rw [unhide HP1]; cases s <;> rfl
    · rw [unhide HP1, sn_abs]; exact natIs_zero _ _ _ (by decide)
    · rw [unhide HP2]; exact natIs_zero _ _ _ (by decide)
  · have hO1 := hl.pos (by omega)
    have hz' : ((n : Int) == 0) = false := by rw [beq_eq_false_iff_ne]; omega
    have HS := hide (sn_neg (s := s) hO1)
    clear hl hl' hra hrb p1 p2 hc
    by_cases h1 : U = 1
    · subst h1
      rw [show (((1 : Nat) : Int) == 1) = true from rfl] at HI
      go_enter Tryd.func45, Tryd.ntmps45
      go_wp2_with fail
      refine (unhide HI).mono ?_
      rintro e w' ⟨rfl, hw'⟩
      subst hw'
      go_wp2
      refine bodyPost_ret (v := .agg #[.bool s, .slice a n c, .slice none 0 0]) (by simp [results, Tryd.results45, go_sem]) rfl ⟨_, rfl, ?_, (Below.refl _ _).alloc (Nat.le_refl _) _⟩
      refine ⟨.slice a n c, .slice none 0 0, ?_, ?_, ?_⟩
      · rw [unhide HP1, unhide HS]
      · rw [unhide HP1, sn_abs, show (O.natAbs : Int) = O by omega]; exact (unhide HO).below ((Below.refl _ _).alloc (Nat.le_refl _) _)
      · rw [unhide HP2]; exact natIs_zero _ _ _ (by decide)
    · rw [show ((U : Int) == 1) = false by rw [beq_eq_false_iff_ne]; omega] at HI
      go_enter Tryd.func45, Tryd.ntmps45
      go_wp2_with fail
      refine (unhide HI).mono ?_
      rintro e w' ⟨rfl, hw'⟩
      subst hw'
      go_wp2
      refine bodyPost_ret (v := .agg #[.bool s, .slice a n c, .slice a' n' c']) (by simp [results, Tryd.results45, go_sem]) rfl ⟨_, rfl, ?_, (Below.refl _ _).alloc (Nat.le_refl _) _⟩
      refine ⟨.slice a n c, .slice a' n' c', ?_, ?_, ?_⟩
      · rw [unhide HP1, unhide HS]
      · rw [unhide HP1, sn_abs, show (O.natAbs : Int) = O by omega]; exact (unhide HO).below ((Below.refl _ _).alloc (Nat.le_refl _) _)
      · rw [unhide HP2, show low U = U by simp [low, h1]]; exact (unhide HU).below ((Below.refl _ _).alloc (Nat.le_refl _) _)

/-- The world with a fraction's box laid. -/
theorem alloc_below (w : World) (o : Obj) : Below w.heap.size w (w.alloc o) := (Below.refl _ _).alloc (Nat.le_refl _) _

set_option maxHeartbeats 1000000 in
theorem lower_any (v : Value) (q : Rat) (w : World) (h : RatIs w v q) :
    Calls Tryd.prog 42 #[v] w fun e w' => ∃ v, e = .returned v ∧ NatIs w' v q.den ∧ Below w.heap.size w w' := by
  obtain ⟨ov, un, rfl, h1, h2⟩ := h
  have HU := hide h2
  obtain ⟨a, n, c, rfl, hl, hra⟩ := h1
  obtain ⟨a', n', c', rfl, hl', hrb⟩ := h2
  clear hl hra hrb
  by_cases hd : q.den = 1
  · rw [hd] at hl'
    have hz : n' = 0 := hl'.of_zero
    subst hz
    have HD := hide hd
    clear hd hl'
    go_enter Tryd.func42, Tryd.ntmps42
    go_wp2_with (go_at_call 49; refine (one_any _).mono ?_; rintro e w1 ⟨v1, rfl, hv1, hb1⟩)
    go_ret
    refine ⟨_, rfl, ?_, (alloc_below w _).trans (hb1.mono (by simp))⟩
    rw [unhide HD]
    exact hv1
  · have hz : n' ≠ 0 := by
      intro h
      subst h
      have := hl'.zero
      simp [low, hd] at this
      exact q.den_nz this
    have hz' : ((n' : Int) == 0) = false := by rw [beq_eq_false_iff_ne]; omega
    have HD := hide (show low q.den = q.den by simp [low, hd])
    clear hd hl' hz
    go_enter Tryd.func42, Tryd.ntmps42
    go_wp2
    go_ret
    refine ⟨_, rfl, ?_, alloc_below w _⟩
    rw [← unhide HD]
    exact (unhide HU).below (alloc_below w _)

set_option maxHeartbeats 1000000 in
theorem sign_any (v : Value) (q : Rat) (w : World) (h : RatIs w v q) :
    Calls Tryd.prog 16 #[v] w fun e w' => e = .returned (.int .i64 q.num.sign) ∧ Below w.heap.size w w' := by
  obtain ⟨ov, un, rfl, h1, h2⟩ := h
  obtain ⟨a, n, c, rfl, hl, hra⟩ := h1
  obtain ⟨a', n', c', rfl, hl', hrb⟩ := h2
  clear hl' hrb hra
  by_cases hz : n = 0
  · subst hz
    have hq : q.num = 0 := by have := hl.zero; omega
    rw [hq]
    clear hl hq
    go_enter Tryd.func16, Tryd.ntmps16
    go_wp2
    go_ret
    exact ⟨rfl, alloc_below w _⟩
  · have hz' : ((n : Int) == 0) = false := by rw [beq_eq_false_iff_ne]; omega
    have hp := hl.pos (by omega)
    clear hl hz
    by_cases hn : q.num < 0
    · rw [Int.sign_eq_neg_one_of_neg hn, decide_eq_true hn]
      clear hn hp
      go_enter Tryd.func16, Tryd.ntmps16
      go_wp2
      go_ret
      exact ⟨rfl, alloc_below w _⟩
    · rw [Int.sign_eq_one_of_pos (by omega), decide_eq_false hn]
      clear hn hp
      go_enter Tryd.func16, Tryd.ntmps16
      go_wp2
      go_ret
      exact ⟨rfl, alloc_below w _⟩
end Go.Proofs.YtdicbnchkfclaaaDoor
