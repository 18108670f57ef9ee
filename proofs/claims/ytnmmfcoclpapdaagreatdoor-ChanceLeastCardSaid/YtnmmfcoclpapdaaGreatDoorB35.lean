/- The document's Least; what ChanceLeast says. -/
import Derived.Test.YtnmmfcoclpapdaaGreatDoorBI
import Derived.Test.YtnmmfcoclpapdaaGreatDoorA17
namespace Go.Proofs.YtnmmfcoclpapdaaGreatDoor
open Go.RowKit Go.Sort Go.Shelf

theorem sg_ge {a b : Int} (h : b ≤ a) : 0 ≤ Wd.sg a b ∧ Wd.sg a b ≤ 1 := by
  unfold Wd.sg
  rw [if_neg (by omega)]
  by_cases e : a = b
  · rw [if_pos e]; exact ⟨by decide, by decide⟩
  · rw [if_neg e]; exact ⟨by decide, by decide⟩
/-- The sign of a comparison. -/
def cmpv (a b : Rat) : Int := Wd.sg (a.num * b.den) (b.num * a.den)
theorem cmpv_lt {a b : Rat} (h : a < b) : cmpv a b = -1 := by
  have h' := Rat.lt_iff a b |>.1 h
  unfold cmpv Wd.sg
  rw [if_pos h']
theorem cmpv_ge {a b : Rat} (h : b ≤ a) : 0 ≤ cmpv a b ∧ cmpv a b ≤ 1 := by
  have h' := Rat.le_iff b a |>.1 h
  unfold cmpv
  exact sg_ge h'
theorem cmpv_le {a b : Rat} (h : a ≤ b) : -1 ≤ cmpv a b ∧ cmpv a b ≤ 0 := by
  have h' := Rat.le_iff a b |>.1 h
  unfold cmpv Wd.sg
  by_cases e : a.num * b.den < b.num * a.den
  · rw [if_pos e]; exact ⟨by decide, by decide⟩
  · rw [if_neg e, if_pos (by omega)]; exact ⟨by decide, by decide⟩
theorem qsum_take (qs : List Rat) (k : Nat) : ∀ j, j ≤ k → qsum (qs.take k) j = qsum qs j
  | 0, _ => rfl
  | j + 1, h => by
    show qsum (qs.take k) j + (qs.take k)[j]! = qsum qs j + qs[j]!
    rw [qsum_take qs k j (by omega), List.getElem!_eq_getElem?_getD, List.getElem!_eq_getElem?_getD, List.getElem?_take_of_lt (by omega)]

theorem take_len {qs : List Rat} {x : Nat} (h : x + 1 ≤ qs.length) : (qs.take (x + 1)).length = x + 1 := by rw [List.length_take]; omega
theorem take_get {qs : List Rat} {k j : Nat} (h : j < k) : (qs.take k)[j]! = qs[j]! := by
  rw [List.getElem!_eq_getElem?_getD, List.getElem!_eq_getElem?_getD, List.getElem?_take_of_lt h]
set_option maxHeartbeats 8000000 in
set_option maxRecDepth 100000 in
set_option linter.unusedSimpArgs false in
theorem refLeast_any (v : Value) (qs : List Rat) (J m b : Nat) (qc : Rat) (w : World) (h : RList w v qs) (hc : BRz w b 0 qc) (hq : ∀ j, j < qs.length → RS qs[j]! J) (hqc : RS qc J) (hJ : qs.length * (J + 1) + 1 + J ≤ 390000) (hm : m < qs.length) (hl : ∀ x, x < m → qsum qs (x + 1) < qc) (hge : qc ≤ qsum qs (m + 1)) (h100 : qs.length ≤ 1000) :
    Calls Tryz.prog 57 #[v, .pointer (some ⟨b, 0, none⟩)] w fun e w' => e = .returned (.int .i64 (m : Int)) ∧ Below w.heap.size w w' := by
  have h' := h
  obtain ⟨a, c, rfl, h1, h2, -⟩ := h'
  have HL := hide h
  have HC := hide hc
  have HQ := hide hq
  have HQC := hide hqc
  have HJ := hide hJ
  have HLT := hide hl
  have HGE := hide hge
  obtain ⟨n, hn⟩ : ∃ n, qs.length = n := ⟨_, rfl⟩
  rw [hn] at h1 hm h100 ⊢
  have HN := hide hn
  have HM := hide hm
  have H1 := hide h1
  have H100 := hide h100
  clear h hc hq hqc hJ hl hge hn hm h1 h100
  go_enter Tryz.func57, Tryz.ntmps57
  go_wp2_with fail
  go_loopw [5] (fun vx wr => ∃ (x : Nat), vx = .int .i64 (x : Int) ∧ x ≤ m ∧ Below w.heap.size w wr) (fun vx _ => m - (intOf vx).toNat)
  case atStart => exact ⟨0, rfl, Nat.zero_le _, Below.refl _ _⟩
  case round =>
    obtain ⟨x, rfl, hx, hb⟩ := hrel
    have hm := unhide HM
    have h1 := unhide H1
    have h100 := unhide H100
    obtain ⟨x1, hx1⟩ : ∃ x1, x + 1 = x1 := ⟨_, rfl⟩
    have f1 : IntKind.i64.wrap ((x : Int) + 1) = (x1 : Int) := by rw [IntKind.wrap_i64]; omega
    have f2 : (x1 : Int) ≤ (c : Int) := by omega
    have f3 : (0 : Int) ≤ (x1 : Int) := by omega
    have hnn := unhide HN
    have hlw := unhide HL
    have ht := (hlw.below hb).take (n := x1) (by omega)
    have hlen : (qs.take x1).length = x1 := by rw [← hx1]; exact take_len (by omega)
    have hts : qsum (qs.take x1) (qs.take x1).length = qsum qs x1 := by rw [hlen]; exact qsum_take qs x1 x1 (Nat.le_refl _)
    have hmul : x1 * (J + 1) ≤ n * (J + 1) := Nat.mul_le_mul_right _ (by omega)
    have hJ := unhide HJ
    rw [hnn] at hJ
    have HSU := hide (refSum_any (.slice a x1 c) (qs.take x1) J wr ht (fun j hj => by rw [take_get (by omega)]; exact unhide HQ j (by omega)) (by rw [hlen]; omega))
    rw [hts] at HSU
    have HRS := hide (qsum_RS (unhide HQ) x1 (by rw [hnn]; omega))
    have HJ2 : Hid (x1 * (J + 1) + 1 + J ≤ 400000) := by show _ ≤ _; omega
    have HBB := hide hb
    have HX := hide hx
    have HX1 := hide hx1
    clear hb ht hlen hts hmul hJ hx hnn hlw hm h1 h100 hx1
    go_wp2_with fail
    refine (unhide HSU).mono ?_
    rintro e w1 ⟨b1, rfl, -, hr1, hb1⟩
    have HB1 := hide (bstep (unhide HBB) hb1)
    have HCM := hide (rcmp_any b1 0 b 0 (x1 * (J + 1) + 1) J _ _ w1 hr1 ((unhide HC).below (unhide HB1)) (unhide HRS) (unhide HQC) (unhide HJ2))
    clear hr1 hb1 HSU
    go_wp2_with fail
    refine (unhide HCM).mono ?_
    rintro e w2 ⟨rfl, hb2⟩
    have HB2 := hide (bstep (unhide HB1) hb2)
    obtain ⟨z, hz⟩ : ∃ z, Wd.sg ((qsum qs x1).num * qc.den) (qc.num * (qsum qs x1).den) = z := ⟨_, rfl⟩
    have HZ : Hid (cmpv (qsum qs x1) qc = z) := hz
    rw [hz]
    clear hb2 HCM hz
    by_cases hxm : x < m
    · have hz1 : z = -1 := by rw [← unhide HZ, ← unhide HX1]; exact cmpv_lt (unhide HLT x hxm)
      subst hz1
      clear HZ
      go_wp2_with fail
      exact ⟨⟨x1, by go_num, by have := unhide HX1; omega, unhide HB2⟩, by have := unhide HX1; simp [intOf]; omega⟩
    · obtain rfl : x = m := by have := unhide HX; omega
      have hz1 : ¬ z < 0 := by
        have hg := cmpv_ge (a := qsum qs x1) (b := qc) (by rw [← unhide HX1]; exact unhide HGE)
        rw [unhide HZ] at hg
        omega
      clear HZ hxm
      go_wp2
      (try simp only [Exit.inBlock, Exit.then])
      (try go_wp2)
      go_ret
      exact ⟨rfl, unhide HB2⟩
set_option maxHeartbeats 2000000 in
theorem whole_good' (x : Int) (w : World) :
    Calls Tryz.prog 59 #[.int .i64 x, .nilIface, .int .i64 x, .int .i64 0] w fun e w' => e = .returned (.bool true) ∧ Below w.heap.size w w' := by
  have e0 : (x == x) = true := by simp
  go_enter Tryz.func59, Tryz.ntmps59
  go_wp2
  go_ret
  exact ⟨rfl, Below.refl _ _⟩
set_option maxHeartbeats 2000000 in
theorem whole_bad' (y k : Int) (hk : k ≠ 0) (w : World) (hg : ErrTy w) :
    Calls Tryz.prog 59 #[.int .i64 0, .iface 35 (.int .i64 k), .int .i64 y, .int .i64 k] w fun e w' => e = .returned (.bool true) ∧ Below w.heap.size w w' := by
  have HT := hide (tell_errno k w hg)
  clear hg
  go_enter Tryz.func59, Tryz.ntmps59
  go_wp2_with fail
  refine (unhide HT).mono ?_
  rintro e w1 ⟨rfl, hb⟩
  go_wp2
  go_ret
  exact ⟨rfl, hb⟩
theorem errV_not' {k : Int} (h : k ≠ 0) : errV k = .iface 35 (.int .i64 k) := by unfold errV; rw [if_neg h]
theorem errV_zero' : errV 0 = .nilIface := rfl
theorem qsum_up {qs : List Rat} (hn : ∀ j, j < qs.length → 0 ≤ qs[j]!) : ∀ {i k : Nat}, i ≤ k → k ≤ qs.length → qsum qs i ≤ qsum qs k := by
  intro i k
  induction k with
  | zero => intro h _; obtain rfl : i = 0 := by omega
            exact Rat.le_refl
  | succ k ih =>
    intro h hk
    by_cases e : i = k + 1
    · subst e; exact Rat.le_refl
    · have h1 := ih (by omega) (by omega)
      have h2 := hn k (by omega)
      have h3 : qsum qs (k + 1) = qsum qs k + qs[k]! := rfl
      rw [h3]
      have h4 : qsum qs k + 0 ≤ qsum qs k + qs[k]! := Rat.add_le_add_left.2 h2
      rw [Rat.add_zero] at h4
      exact Rat.le_trans h1 h4
theorem least_one {qs : List Rat} {qc : Rat} {a m : Nat} (hn : ∀ j, j < qs.length → 0 ≤ qs[j]!) (ha : a < qs.length) (hm : m < qs.length) (a1 : qsum qs a < qc) (a2 : qc ≤ qsum qs (a + 1)) (m1 : qsum qs m < qc) (m2 : qc ≤ qsum qs (m + 1)) : a = m := by
  rcases Nat.lt_trichotomy a m with h | h | h
  · have := qsum_up hn (i := a + 1) (k := m) (by omega) (by omega)
    exact absurd (Rat.le_trans a2 this) (Rat.not_le.2 m1)
  · exact h
  · have := qsum_up hn (i := m + 1) (k := a) (by omega) (by omega)
    exact absurd (Rat.le_trans m2 this) (Rat.not_le.2 a1)
theorem chk_nn {qs : List Rat} (h : chk qs = 0) : 1 ≤ qs.length ∧ qs.length ≤ 101 ∧ (∀ j, j < qs.length → 0 ≤ qs[j]!) ∧ qsum qs qs.length = 1 := by
  unfold chk at h
  by_cases h1 : qs.length < 1 ∨ 101 < qs.length
  · rw [if_pos h1] at h; exact absurd h (by decide)
  · rw [if_neg h1] at h
    by_cases h2 : ∃ j, j < qs.length ∧ qs[j]!.num < 0
    · rw [if_pos h2] at h; exact absurd h (by decide)
    · rw [if_neg h2] at h
      by_cases h3 : qsum qs qs.length = 1
      · refine ⟨by omega, by omega, fun j hj => ?_, h3⟩
        refine Rat.num_nonneg.1 ?_
        rcases Int.lt_or_le qs[j]!.num 0 with h4 | h4
        · exact absurd ⟨j, hj, h4⟩ h2
        · exact h4
      · rw [if_neg h3] at h; exact absurd h (by decide)
theorem least_ex {qs : List Rat} {qc : Rat} (hc0 : 0 < qc) (hc1 : qc ≤ qsum qs qs.length) : ∃ m, m < qs.length ∧ qsum qs m < qc ∧ qc ≤ qsum qs (m + 1) := by
  have key : ∀ k, qc ≤ qsum qs k → ∃ m, m < k ∧ qsum qs m < qc ∧ qc ≤ qsum qs (m + 1) := by
    intro k
    induction k with
    | zero => intro h; exact absurd h (Rat.not_le.2 hc0)
    | succ k ih =>
      intro h
      by_cases h1 : qc ≤ qsum qs k
      · obtain ⟨m, a, b, c⟩ := ih h1
        exact ⟨m, by omega, b, c⟩
      · exact ⟨k, by omega, Rat.not_le.1 h1, h⟩
  exact key _ hc1
theorem sign_le {x : Int} : decide (x.sign ≤ 0) = decide (x ≤ 0) := by
  rcases Int.lt_trichotomy x 0 with h | h | h
  · rw [Int.sign_eq_neg_one_of_neg h, decide_eq_true (show x ≤ 0 by omega)]; rfl
  · subst h; rfl
  · rw [Int.sign_eq_one_of_pos h, decide_eq_false (show ¬ x ≤ 0 by omega)]; rfl
theorem cmp_above {q : Rat} : decide (0 < Wd.sg (q.num * ((1 : Int) : Rat).den) (((1 : Int) : Rat).num * q.den)) = decide ((q.den : Int) < q.num) := by
  show decide (0 < Wd.sg (q.num * ((1 : Nat) : Int)) ((1 : Int) * (q.den : Int))) = _
  rw [Int.one_mul, show ((1 : Nat) : Int) = 1 from rfl, Int.mul_one]
  unfold Wd.sg
  by_cases h : q.num < (q.den : Int)
  · rw [if_pos h, decide_eq_false (show ¬ (q.den : Int) < q.num by omega)]; rfl
  · rw [if_neg h]
    by_cases h2 : q.num = (q.den : Int)
    · rw [if_pos h2, decide_eq_false (show ¬ (q.den : Int) < q.num by omega)]; rfl
    · rw [if_neg h2, decide_eq_true (show (q.den : Int) < q.num by omega)]; rfl
theorem pos_of {q : Rat} (h : 0 < q.num) : 0 < q := by
  rw [Rat.lt_iff]
  show (0 : Int) * (q.den : Int) < q.num * ((1 : Nat) : Int)
  omega
theorem le_one {q : Rat} (h : ¬ (q.den : Int) < q.num) : q ≤ 1 := by
  rw [Rat.le_iff]
  show q.num * ((1 : Nat) : Int) ≤ (1 : Int) * (q.den : Int)
  omega
end Go.Proofs.YtnmmfcoclpapdaaGreatDoor
