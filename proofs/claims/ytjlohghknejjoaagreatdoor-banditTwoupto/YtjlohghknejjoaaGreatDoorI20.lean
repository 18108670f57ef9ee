/- Comparisons, signs, questions; equations alike. -/
import Derived.Test.YtjlohghknejjoaaGreatDoorN41
import Derived.Test.YtjlohghknejjoaaGreatDoorQ0
namespace Go.Proofs.YtjlohghknejjoaaGreatDoor
open Go.RowKit Go.Sort Go.Shelf

/-- How great the numbers may be when k columns are done. -/
def sz (J : Nat) : Nat → Nat
  | 0 => J
  | k + 1 => 4 * sz J k + 1
theorem sz_le (J : Nat) : ∀ {a b : Nat}, a ≤ b → sz J a ≤ sz J b
  | a, 0, h => by obtain rfl : a = 0 := by omega
                  exact Nat.le_refl _
  | a, b + 1, h => by
    by_cases e : a = b + 1
    · rw [e]; exact Nat.le_refl _
    · have := sz_le J (a := a) (b := b) (by omega)
      have e2 : sz J (b + 1) = 4 * sz J b + 1 := rfl
      omega
/-- The first r rows behind k, of which the row k is taken away. -/
def tkr (L : Nat → Nat → Rat) (n k r : Nat) : Nat → Nat → Rat := fun a b => if k < a ∧ a < k + 1 + r ∧ k < b ∧ b < n + 1 then L a b - L a k / L k k * L k b else L a b
theorem tkr_zero (L : Nat → Nat → Rat) (n k : Nat) : tkr L n k 0 = L := by
  funext a b
  unfold tkr
  rw [if_neg (by omega)]
theorem tkr_row (L : Nat → Nat → Rat) (n k r b : Nat) {a : Nat} (h : a ≤ k ∨ k + 1 + r ≤ a) : tkr L n k r a b = L a b := by
  unfold tkr
  rw [if_neg (by omega)]
theorem tkr_next (L : Nat → Nat → Rat) (n k r : Nat) : tk (tkr L n k r) (k + 1 + r) k (n + 1) = tkr L n k (r + 1) := by
  funext a b
  unfold tk
  rw [tkr_row L n k r b (a := k + 1 + r) (Or.inr (Nat.le_refl _)), tkr_row L n k r k (a := k + 1 + r) (Or.inr (Nat.le_refl _)), tkr_row L n k r k (a := k) (Or.inl (Nat.le_refl _)), tkr_row L n k r b (a := k) (Or.inl (Nat.le_refl _))]
  by_cases h : a = k + 1 + r
  · subst h
    by_cases h2 : k < b ∧ b < n + 1
    · rw [if_pos ⟨rfl, h2⟩]
      unfold tkr
      rw [if_pos ⟨by omega, by omega, h2⟩]
    · rw [if_neg (fun x => h2 x.2), tkr_row L n k r b (Or.inr (Nat.le_refl _))]
      unfold tkr
      rw [if_neg (fun x => h2 x.2.2)]
  · rw [if_neg (fun x => h x.1)]
    unfold tkr
    by_cases h2 : k < a ∧ a < k + 1 + r ∧ k < b ∧ b < n + 1
    · rw [if_pos h2, if_pos ⟨h2.1, by omega, h2.2.2⟩]
    · rw [if_neg h2, if_neg (fun x => h2 ⟨x.1, by omega, x.2.2⟩)]
theorem tkr_all (L : Nat → Nat → Rat) {n k d : Nat} (hd : n = k + 1 + d) (i j : Nat) (hi : i < n) (hj : j < n + 1) : tkr L n k d i j = Lin.took L n k i j := by
  unfold tkr Lin.took
  by_cases h : k < i ∧ k < j
  · rw [if_pos ⟨h.1, by omega, h.2, hj⟩, if_pos ⟨h.1, h.2, by omega⟩]
  · rw [if_neg (fun x => h ⟨x.1, x.2.2.1⟩), if_neg (fun x => h ⟨x.1, x.2.1⟩)]
theorem tkr_RS {L : Nat → Nat → Rat} {n k s : Nat} (r : Nat) (h : ∀ a b, a < n → b < n + 1 → RS (L a b) s) (hk : k < n) (hz : L k k ≠ 0) (a b : Nat) (ha : a < n) (hb : b < n + 1) : RS (tkr L n k r a b) (4 * s + 1) := by
  unfold tkr
  by_cases e : k < a ∧ a < k + 1 + r ∧ k < b ∧ b < n + 1
  · rw [if_pos e]
    have x := (h a k ha (by omega)).div' (h k k hk (by omega)) (fun x => hz (Rat.num_eq_zero.1 x))
    exact RS.mono ((h a b ha hb).sub' (x.mul (h k b hk hb))) (by omega)
  · rw [if_neg e]; exact (h a b ha hb).mono (by omega)
theorem swp_RS {L : Nat → Nat → Rat} {n k p s : Nat} (h : ∀ a b, a < n → b < n + 1 → RS (L a b) s) (hk : k < n) (hp : p < n) (a b : Nat) (ha : a < n) (hb : b < n + 1) : RS (Lin.swp L k p a b) s := by
  unfold Lin.swp
  by_cases e : a = k
  · rw [if_pos e]; exact h p b hp hb
  · rw [if_neg e]
    by_cases e2 : a = p
    · rw [if_pos e2]; exact h k b hk hb
    · rw [if_neg e2]; exact h a b ha hb

/-- What Solve says: the numbers that fit, and only these; or there are others. -/
def SolvePost (w : World) (n : Nat) (A : Nat → Nat → Rat) (X : Nat) (e : Ending) (w' : World) : Prop :=
  (∃ (v : Value) (x : Nat → Rat), e = .returned (.tuple #[v, .bool true]) ∧ LawIs w' v (row x n) ∧ Lin.Solved n A x ∧ (∀ i, RS (x i) X) ∧ Below w.heap.size w w') ∨
  ((∃ y, Lin.Sat n A y 0 ∧ ∃ i, i < n ∧ y i = 1) ∧ e = .returned (.tuple #[.slice none 0 0, .bool false]) ∧ Below w.heap.size w w')

set_option maxHeartbeats 8000000 in
set_option maxRecDepth 100000 in
set_option linter.unusedSimpArgs false in
theorem solve_any (v vr : Value) (ks : List (List Rat)) (qs : List Rat) (w : World) (n J : Nat) (h : RowsAre w v ks) (hr : LawIs w vr qs) (hn : ks.length = n) (hs : ∀ j, j < n → (ks[j]!).length = n) (hq : qs.length = n) (hn2 : n ≤ 100)
    (hJ : ∀ i j, i < n → j < n + 1 → RS (aug ks qs n i j) J) (hB : 2 * xb (sz J n) n + 40 * sz J n + 50 ≤ KK) :
    Calls Tryz.prog 80 #[v, vr] w (SolvePost w n (aug ks qs n) (xb (sz J n) n)) := by
  have HSQ := hide (square_any v vr ks qs w h hr (by rw [hn]; exact hs) (by rw [hq, hn]))
  have HJO : Hid (∀ W, Below w.heap.size w W → Calls Tryz.prog 100 #[v, vr] W (JoinedPost W n (aug ks qs n))) := fun W hW => joined_any v vr ks qs W n (h.below hW) (hr.below hW) hn hs hq hn2
  have HJ := hide hJ
  obtain ⟨A, hA⟩ : ∃ A, aug ks qs n = A := ⟨_, rfl⟩
  rw [hA] at HJO HJ ⊢
  obtain ⟨a, c, rfl, h1, h2, h3⟩ := h
  obtain ⟨ar, cr, rfl, r1, r2, r3⟩ := hr
  rw [hn] at HSQ HJO h1 ⊢
  rw [hq] at HSQ HJO r1 ⊢
  clear h3 r3 hs hJ hA hn hq
  go_enter Tryz.func80, Tryz.ntmps80
  go_wp2_with fail
  refine (unhide HSQ).mono ?_
  rintro e w1 ⟨rfl, hb1⟩
  go_wp2_with fail
  refine (unhide HJO w1 hb1).mono ?_
  rintro e w2 ⟨G, bs, uss, rfl, hM0⟩
  have HM0 := hide (hM0.rebase hb1)
  clear hM0 hb1 HSQ HJO
  go_wp2_with fail
  obtain ⟨N, hN⟩ : ∃ N : Int, (n : Int) = N := ⟨_, rfl⟩
  rw [hN]
  have HN := hide hN
  clear hN
  go_loopw [19] (fun vi wr => ∃ (k : Nat) (bs : Nat → Nat) (uss : Nat → List Tri) (L : Nat → Nat → Rat), vi = .int .i64 (k : Int) ∧ k ≤ n ∧ MatAt w wr G n n (n + 1) bs uss L ∧ Lin.Inv n A k L ∧ ∀ a b, a < n → b < n + 1 → RS (L a b) (sz J k)) (fun vi _ => n - (intOf vi).toNat)
  case atStart => exact ⟨0, _, _, A, rfl, Nat.zero_le _, unhide HM0, Lin.inv_zero n A, unhide HJ⟩
  case round =>
    obtain ⟨k, bs, uss, L, rfl, hk, hM, hI, hR⟩ := hrel
    clear HM0
    have HM := hide hM
    have HI := hide hI
    have HR := hide hR
    have KKe : KK = 1099511627776 := rfl
    by_cases hlt : k < n
    · obtain ⟨d, hd⟩ : ∃ d, n = k + 1 + d := ⟨n - k - 1, by omega⟩
      have HBR := hide (brought_any w wr G n (n + 1) k (d + 1) bs uss L hM (by omega) (by omega) (by omega) (by omega))
      have hss : sz J (k + 1) ≤ sz J n := sz_le J hlt
      have es : sz J (k + 1) = 4 * sz J k + 1 := rfl
      have e1 : (k : Int) < N := by have := unhide HN; omega
      have e7 : (k : Int) < (n : Int) := by omega
      have e0 : (0 : Int) ≤ (k : Int) := by omega
      have e2 : n - k = d + 1 := by omega
      have hkn : n ≠ k := by omega
      have HD := hide hd
      have hd100 : d ≤ 100 := by omega
      have e4 : n - (k + 1) = d := by omega
      have HE4 := hide e4
      clear hM hI hR hd e4
      go_wp2_with fail
      refine (unhide HBR).mono ?_
      rintro e w3 (⟨p, bs', uss', hp1, hp2, hp3, rfl, hM3⟩ | ⟨hz, rfl, hb3⟩)
      rotate_left
      · have HY : Hid (∃ y, Lin.Sat n A y 0 ∧ ∃ i, i < n ∧ y i = 1) := by
          obtain ⟨y, y1, y2⟩ := Lin.singular (unhide HI) hlt hz
          exact ⟨y, y1, k, hlt, y2⟩
        have HB3 := hide hb3
        clear hz hb3 HBR HM HI HR
        go_wp2
        go_ret2
        exact Or.inr ⟨unhide HY, rfl, unhide HB3⟩
      have hzk : Lin.swp L k p k k ≠ 0 := by unfold Lin.swp; rw [if_pos rfl]; exact hp3
      have HI2 := hide (Lin.inv_next (unhide HI) hp1 hp2 hp3)
      have HR1 := hide (swp_RS (unhide HR) hlt hp2)
      obtain ⟨L1, hL1⟩ : ∃ L1, Lin.swp L k p = L1 := ⟨_, rfl⟩
      rw [hL1] at hM3 hzk HI2 HR1
      have HM3 := hide hM3
      have HZK := hide hzk
      clear hM3 hzk hL1 hp1 hp2 hp3 HBR HM HI HR
      have e3 : (k : Int) + 1 ≤ (n : Int) := by omega
      clear e2
      by_cases hd0 : d = 0
      · subst hd0
        obtain rfl : n = k + 1 := by have := unhide HD; omega
        clear e3 hkn HE4 e7
        go_wp2_with fail
        go_loopw [33] (fun vi wr => vi = .int .i64 0 ∧ MatAt w wr G (k + 1) (k + 1) (k + 1 + 1) bs' uss' L1) (fun _ _ => 0)
        case atStart => exact ⟨rfl, unhide HM3⟩
        case round =>
          obtain ⟨rfl, hM⟩ := hrel
          have HFM := hide (hM.congr (N := Lin.took L1 (k + 1) k) (fun a b ha hb => by rw [← tkr_all L1 (d := 0) rfl a b ha hb, tkr_zero]))
          clear hM HM3
          go_wp2_with fail
          refine ⟨⟨k + 1, _, _, _, by go_num, Nat.le_refl _, unhide HFM, unhide HI2, fun a b ha hb => ?_⟩, by simp [intOf]⟩
          rw [← tkr_all L1 (d := 0) rfl a b ha hb]
          exact tkr_RS 0 (unhide HR1) hlt (unhide HZK) a b ha hb
      have e4 := unhide HE4
      have hkn2 : n ≠ k + 1 := by have := unhide HD; omega
      go_wp2_with fail
      clear e4 hkn2
      go_loopw [33] (fun vi wr => ∃ (r : Nat) (us : Nat → List Tri), vi = .int .i64 (r : Int) ∧ r ≤ d ∧ MatAt w wr G n n (n + 1) bs' us (tkr L1 n k r)) (fun vi _ => d - (intOf vi).toNat)
      case atStart => exact ⟨0, _, rfl, Nat.zero_le _, by rw [tkr_zero]; exact unhide HM3⟩
      case round =>
        obtain ⟨r, us, rfl, hr, hM⟩ := hrel
        clear HM3
        have HM := hide hM
        have hdd := unhide HD
        by_cases hlt2 : r < d
        · have k0 := hM.head (i := k + 1 + r) (by omega) (by omega)
          have k1 := hM.head (i := k) (by omega) (by omega)
          have HTA := hide (etake_any w wr G n (n + 1) k (k + 1 + r) (4 * sz J k + 1) bs' us (tkr L1 n k r) hM hlt (by omega) (by omega) (by omega) (by omega) (by rw [tkr_row L1 n k r k (Or.inl (Nat.le_refl _))]; exact unhide HZK) (tkr_RS r (unhide HR1) hlt (unhide HZK)) (by omega))
          rw [tkr_next] at HTA
          have e5 : (r : Int) < (d : Int) := by omega
          have e6 : (0 : Int) ≤ (r : Int) := by omega
          clear hM hdd
          go_wp2_with fail
          refine (unhide HTA).mono ?_
          rintro e w4 ⟨rfl, us', hM4⟩
          have HM4 := hide hM4
          clear hM4 HTA k0 k1 HM
          go_wp2_with fail
          exact ⟨⟨r + 1, us', by go_num, hlt2, unhide HM4⟩, by simp [intOf]; omega⟩
        · obtain rfl : r = d := by omega
          have e5 : ¬ (r : Int) < (r : Int) := by omega
          have HFM := hide (hM.congr (N := Lin.took L1 n k) (fun a b ha hb => tkr_all L1 hdd a b ha hb))
          clear hM hdd HM
          go_wp2_with fail
          refine ⟨⟨k + 1, _, _, _, by go_num, hlt, unhide HFM, unhide HI2, fun a b ha hb => ?_⟩, by simp [intOf]; omega⟩
          rw [← tkr_all L1 (unhide HD) a b ha hb]
          exact tkr_RS r (unhide HR1) hlt (unhide HZK) a b ha hb
    · obtain rfl : k = n := by omega
      have e1 : ¬ (k : Int) < N := by have := unhide HN; omega
      have HBM := hide hM.bl
      have HBK := hide (back_any w wr G k (sz J k) bs uss L hM (by omega) hI.2 (fun a b ha hb => hR a b ha (by omega)) (by omega))
      have HSV := hide (Lin.solved_of hI)
      have HXR := hide (bk_RS (fun a b ha hb => hR a b ha (Nat.lt_succ_of_le hb)) hI.2 k (Nat.le_refl k))
      clear hM hI hR HM HI HR
      go_wp2_with fail
      refine (unhide HBK).mono ?_
      rintro e w5 ⟨v5, rfl, hv5, hb5⟩
      have HV := hide hv5
      obtain ⟨a5, c5, rfl, _, _, _⟩ := hv5
      have HB := hide (below_step (unhide HBM) hb5)
      clear hb5 HBK
      go_wp2
      go_ret2
      exact Or.inl ⟨_, _, rfl, unhide HV, unhide HSV, unhide HXR, unhide HB⟩
end Go.Proofs.YtjlohghknejjoaaGreatDoor
namespace Go.Proofs.YtjlohghknejjoaaGreatDoor
open Go.RowKit Go.Sort Go.Shelf

/-- The sign of a comparison. -/
def cmpv (a b : Rat) : Int := Wd.sg (a.num * b.den) (b.num * a.den)
theorem cmpv_lt {a b : Rat} (h : a < b) : cmpv a b = -1 := by
  have h' := Rat.lt_iff a b |>.1 h
  unfold cmpv Wd.sg
  rw [if_pos h']
theorem cmpv_ge {a b : Rat} (h : b ≤ a) : 0 ≤ cmpv a b ∧ cmpv a b ≤ 1 := by
  have h' := Rat.le_iff b a |>.1 h
  unfold cmpv
  exact sg_ge h'
theorem cmpv_le {a b : Rat} (h : a ≤ b) : -1 ≤ cmpv a b ∧ cmpv a b ≤ 0 := by
  have h' := Rat.le_iff a b |>.1 h
  unfold cmpv Wd.sg
  by_cases e : a.num * b.den < b.num * a.den
  · rw [if_pos e]; exact ⟨by decide, by decide⟩
  · rw [if_neg e, if_pos (by omega)]; exact ⟨by decide, by decide⟩
theorem cmpR_all (va vb : Value) (qa qb : Rat) (w : World) (ha : RatIs w va qa) (hb : RatIs w vb qb) (j : Nat) (ra : RS qa j) (rb : RS qb j) (hj : j ≤ KK) :
    Calls Tryz.prog 14 #[va, vb] w fun e w' => e = .returned (.int .i64 (cmpv qa qb)) ∧ Below w.heap.size w w' :=
  cmpR_any va vb qa qb w ha hb (sm_of ra.1 hj) (sm_of rb.1 hj) (sm_of ra.2 hj) (sm_of rb.2 hj)

theorem cmpv_gt {a b : Rat} (h : b < a) : cmpv a b = 1 := by
  have h' := Rat.lt_iff b a |>.1 h
  unfold cmpv Wd.sg
  rw [if_neg (by omega), if_neg (by omega)]
theorem sign_neg {q : Rat} (h : q < 0) : q.num.sign = -1 := Int.sign_eq_neg_one_of_neg (by
  have := Rat.lt_iff q 0 |>.1 h
  simpa using this)
theorem sign_nn {q : Rat} (h : ¬ q < 0) : 0 ≤ q.num.sign := Int.sign_nonneg_iff.2 (by
  have : ¬ _ := fun x => h (Rat.lt_iff q 0 |>.2 x)
  simpa using this)
/-- A question's answer. -/
def AskPost (w : World) (P : Prop) (e : Ending) (w' : World) : Prop := ((P ∧ e = .returned (.bool true)) ∨ (¬ P ∧ e = .returned (.bool false))) ∧ Below w.heap.size w w'
theorem sat_congr {n : Nat} {A B : Nat → Nat → Rat} (h : ∀ i j, i < n → j < n + 1 → A i j = B i j) (x : Nat → Rat) (t : Rat) : Lin.Sat n A x t ↔ Lin.Sat n B x t := by
  constructor
  · intro s i hi
    have := s i hi
    rw [h i n hi (by omega), Bth.ps_congr n (fun j hj => by rw [h i j hi (by omega)])] at this
    exact this
  · intro s i hi
    have := s i hi
    rw [← h i n hi (by omega), Bth.ps_congr n (fun j hj => by rw [← h i j hi (by omega)])] at this
    exact this
theorem solved_congr {n : Nat} {A B : Nat → Nat → Rat} (h : ∀ i j, i < n → j < n + 1 → A i j = B i j) {x : Nat → Rat} (s : Lin.Solved n A x) : Lin.Solved n B x :=
  ⟨(sat_congr h x 1).1 s.1, fun y hy => s.2 y ((sat_congr h y 0).2 hy)⟩
def bf (qs : List Rat) (k : Nat) : Rat := qs[k]!
end Go.Proofs.YtjlohghknejjoaaGreatDoor
