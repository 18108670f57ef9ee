/- Trees of the program: people, Sum, the least. -/
import Derived.Test.YtcmddkekidgkoaaDoorTE4
namespace Go.Proofs.YtcmddkekidgkoaaDoor
open Go.RowKit Go.Sort Go.Shelf

def pbad (x : Int) : Bool := decide (x < 0 ∨ 10000 < x)
set_option maxHeartbeats 1000000 in
theorem pwrong_any (x : Int) (w : World) :
    Calls Tryd.prog 93 #[.int .i64 x] w fun e w' => e = .returned (.bool (pbad x)) ∧ w' = w := by
  have C := hide (twithin_any x 10000 w)
  by_cases h : 0 ≤ x ∧ x ≤ 10000
  · rw [show pbad x = false from decide_eq_false (by omega)]
    rw [decide_eq_true h] at C
    clear h
    go_enter Tryd.func93, Tryd.ntmps93
    go_wp2_with fail
    refine (unhide C).mono ?_
    rintro e_ w2 ⟨rfl, rfl⟩
    go_wp2
    go_ret
    exact ⟨rfl, rfl⟩
  · rw [show pbad x = true from decide_eq_true (by omega)]
    rw [decide_eq_false h] at C
    clear h
    go_enter Tryd.func93, Tryd.ntmps93
    go_wp2_with fail
    refine (unhide C).mono ?_
    rintro e_ w2 ⟨rfl, rfl⟩
    go_wp2
    go_ret
    exact ⟨rfl, rfl⟩

def pplIx (f : Nat → Int) (n : Nat) (w : World) (e : Ending) (w' : World) : Prop := (∃ r : Int, e = .returned (.int .i64 r) ∧ decide (0 ≤ r) = (List.range n).any (fun j => pbad (f j))) ∧ w' = w
theorem ppl_true {f : Nat → Int} {n j : Nat}  (hj : j < n) (h : pbad (f j) = true) : (List.range n).any (fun j => pbad (f j)) = true := List.any_eq_true.2 ⟨j, List.mem_range.2 hj, h⟩
theorem ppl_false {f : Nat → Int} {n : Nat}  (h : ∀ j, j < n → pbad (f j) = false) : (List.range n).any (fun j => pbad (f j)) = false := by
  cases hb : (List.range n).any (fun j => pbad (f j)) with
  | false => rfl
  | true =>
    obtain ⟨i, h1, h2⟩ := List.any_eq_true.1 hb
    rw [h i (List.mem_range.1 h1)] at h2
    cases h2
set_option maxHeartbeats 4000000 in
theorem ppl_index (a : Option Addr) (n c : Nat) (f : Nat → Int)  (w : World) (ha : IRow w a n c f) (hn : n ≤ 1000000)  :
    Calls Tryd.prog 94 #[.slice a n c, .func (.func 93) #[] #[]] w (pplIx f n w) := by
  have HCL : Hid (∀ x : Int, Calls Tryd.prog 93 #[.int .i64 x] w fun e w' => e = .returned (.bool (pbad x)) ∧ w' = w) := fun x => pwrong_any x w
  obtain ⟨h1, h2, h3⟩ := ha
  have H3 := hide h3
  clear h3
  go_enter Tryd.func94, Tryd.ntmps94
  go_wp2
  go_loopw [8] (fun vi wr => ∃ m : Nat, vi = .int .i64 (m : Int) ∧ m ≤ n ∧ (∀ j, j < m → pbad (f j) = false) ∧ wr = w) (fun vi _ => n - (intOf vi).toNat)
  case atStart => exact ⟨0, rfl, Nat.zero_le _, fun j hj => absurd hj (Nat.not_lt_zero _), rfl⟩
  case round =>
    obtain ⟨m, rfl, hm, hj, rfl⟩ := hrel
    by_cases hlt : m < n
    · obtain ⟨b, o, rfl, hbl, hc⟩ := unhide H3 (by omega)
      have k0 := hc m hlt
      obtain ⟨x, hx⟩ : ∃ x, f m = x := ⟨_, rfl⟩
      rw [hx] at k0
      have e2 : (0 : Int) ≤ (m : Int) := by omega
      have e3 : (m : Int) < (n : Int) := by omega
      have HJ := hide hj
      have HX := hide hx
      have C := hide (unhide HCL x)
      clear hc H3 hj hx HCL
      cases hb : pbad x with
      | true =>
        rw [hb] at C
        have HF : Hid ((List.range n).any (fun j => pbad (f j)) = true) := ppl_true hlt (by rw [unhide HX]; exact hb)
        clear hb
        go_wp2_with fail
        refine (unhide C).mono ?_
        rintro e_ w2 ⟨rfl, rfl⟩
        go_wp2
        go_ret
        exact ⟨⟨_, rfl, by rw [unhide HF]; exact decide_eq_true (by omega)⟩, rfl⟩
      | false =>
        rw [hb] at C
        have HF : Hid (pbad (f m) = false) := by show pbad (f m) = false; rw [unhide HX]; exact hb
        clear hb
        go_wp2_with fail
        refine (unhide C).mono ?_
        rintro e_ w2 ⟨rfl, rfl⟩
        go_wp2
        refine ⟨⟨m + 1, by go_num, hlt, fun j hj => ?_, by first | exact rfl | trivial⟩, by simp [intOf]; omega⟩
        by_cases hjm : j = m
        · rw [hjm]; exact unhide HF
        · exact unhide HJ j (by omega)
    · obtain rfl : m = n := by omega
      have HF := hide (ppl_false hj)
      clear hj
      have e3 : ¬ (m : Int) < (m : Int) := by omega
      go_wp2
      go_ret
      exact ⟨⟨_, rfl, by rw [unhide HF]; exact decide_eq_false (by omega)⟩, rfl⟩
set_option maxHeartbeats 4000000 in
theorem ppl_contains (a : Option Addr) (n c : Nat) (f : Nat → Int)  (w : World) (ha : IRow w a n c f) (hn : n ≤ 1000000)  :
    Calls Tryd.prog 60 #[.slice a n c, .func (.func 93) #[] #[]] w fun e w' => e = .returned (.bool ((List.range n).any (fun j => pbad (f j)))) ∧ w' = w := by
  have C := hide (ppl_index a n c f  w ha hn )
  have q1 := ha.1
  have q2 := ha.2.1
  obtain ⟨B, hB⟩ : ∃ B, (List.range n).any (fun j => pbad (f j)) = B := ⟨_, rfl⟩
  have HB := hide hB
  rw [hB]
  clear ha hB
  go_enter Tryd.func60, Tryd.ntmps60
  go_wp2_with fail
  refine (unhide C).mono ?_
  rintro e_ w2 ⟨⟨r, rfl, hr⟩, rfl⟩
  by_cases h : 0 ≤ r
  · rw [decide_eq_true h] at hr
    obtain rfl : B = true := (unhide HB).symm.trans hr.symm
    clear hr
    go_wp2
    go_ret
    exact ⟨rfl, rfl⟩
  · rw [decide_eq_false h] at hr
    obtain rfl : B = false := (unhide HB).symm.trans hr.symm
    have h' : decide (0 ≤ r) = false := decide_eq_false h
    clear hr
    go_wp2
    go_ret
    exact ⟨rfl, rfl⟩

def anyP (P : Nat → Int) (n : Nat) : Bool := (List.range n).any (fun j => pbad (P j))
theorem anyP_good {P : Nat → Int} {n : Nat} (h : anyP P n = false) : GoodP n P := fun v hv => by
  cases hb : pbad (P v) with
  | true => rw [show anyP P n = true from ppl_true hv hb] at h; cases h
  | false => have := of_decide_eq_false hb; omega
def pcode (N : Int) (m : Nat) (f : Nat → T3) (cu : Bool) (pn : Nat) (P : Nat → Int) : Int := if kcode N m f cu ≠ 0 then kcode N m f cu else if (pn : Int) ≠ N then 3 else if anyP P pn then 2 else 0
def acode (N : Int) (m : Nat) (f : Nat → T3) (cu : Bool) (pn : Nat) (P : Nat → Int) (at_ : Int) : Int := if pcode N m f cu pn P ≠ 0 then pcode N m f cu pn P else if at_ < 0 ∨ N ≤ at_ then 2 else 0
theorem pcode_zero {N : Int} {m pn : Nat} {f : Nat → T3} {cu : Bool} {P : Nat → Int} (h : pcode N m f cu pn P = 0) : kcode N m f cu = 0 ∧ (pn : Int) = N ∧ GoodP pn P := by
  unfold pcode at h
  by_cases c : kcode N m f cu = 0
  · rw [if_neg (by simpa using c)] at h
    by_cases c2 : (pn : Int) = N
    · rw [if_neg (by simpa using c2)] at h
      cases c3 : anyP P pn with
      | true => rw [c3] at h; exact absurd (show (2 : Int) = 0 from h) (by decide)
      | false => exact ⟨c, c2, anyP_good c3⟩
    · rw [if_pos c2] at h; exact absurd h (by decide)
  · rw [if_pos c] at h; exact absurd h c
theorem acode_zero {N at_ : Int} {m pn : Nat} {f : Nat → T3} {cu : Bool} {P : Nat → Int} (h : acode N m f cu pn P at_ = 0) : pcode N m f cu pn P = 0 ∧ 0 ≤ at_ ∧ at_ < N := by
  unfold acode at h
  by_cases c : pcode N m f cu pn P = 0
  · rw [if_neg (by simpa using c)] at h
    by_cases c2 : at_ < 0 ∨ N ≤ at_
    · rw [if_pos c2] at h; exact absurd h (by decide)
    · exact ⟨c, by omega, by omega⟩
  · rw [if_pos c] at h; exact absurd h c

set_option maxHeartbeats 4000000 in
set_option maxRecDepth 100000 in
theorem people_any (N : Int) (a : Option Addr) (m c : Nat) (f : Nat → T3) (pa : Option Addr) (pn pc : Nat) (P : Nat → Int) (cu : Bool) (w : World) (hN : I64 N) (hcu : Cu N.toNat m f cu) (ha : TRow w a m c f) (hp : IRow w pa pn pc P) (hpn : pn ≤ 1000) :
    Calls Tryd.prog 55 #[.int .i64 N, .slice a m c, .slice pa pn pc] w fun e w' => e = .returned (errV (pcode N m f cu pn P)) ∧ Below w.heap.size w w' := by
  have HC := hide (tcheck_any N a m c f cu w hN hcu ha)
  have HP : Hid (∀ W, Below w.heap.size w W → Calls Tryd.prog 60 #[.slice pa pn pc, .func (.func 93) #[] #[]] W fun e w' => e = .returned (.bool (anyP P pn)) ∧ w' = W) := fun W hW => ppl_contains pa pn pc P W (hp.below hW) (by omega)
  have q1 := ha.1
  have q2 := ha.2.1
  have q3 := hp.1
  have q4 := hp.2.1
  clear ha hp
  by_cases hk : kcode N m f cu = 0
  case neg =>
    rw [errV_not hk] at HC
    have HE : Hid (errV (pcode N m f cu pn P) = errV (kcode N m f cu)) := by show errV _ = _; unfold pcode; rw [if_pos hk]
    rw [errV_not hk] at HE
    obtain ⟨k, hk2⟩ : ∃ k, kcode N m f cu = k := ⟨_, rfl⟩
    rw [hk2] at HC HE
    clear hk hk2 hcu HP
    go_enter Tryd.func55, Tryd.ntmps55
    go_wp2_with fail
    refine (unhide HC).mono ?_
    rintro e w1 ⟨rfl, hb1⟩
    go_wp2
    go_ret
    exact ⟨by rw [unhide HE]; rfl, hb1⟩
  rw [hk, errV_zero] at HC
  by_cases hl : (pn : Int) = N
  case neg =>
    have HE : Hid (errV (pcode N m f cu pn P) = .iface 25 (.int .i64 3)) := by show errV _ = _; unfold pcode; rw [if_neg (by simpa using hk), if_pos hl]; rfl
    have e0 : ((pn : Int) != N) = true := by simpa using hl
    clear hk hl hcu HP
    go_enter Tryd.func55, Tryd.ntmps55
    go_wp2_with fail
    refine (unhide HC).mono ?_
    rintro e w1 ⟨rfl, hb1⟩
    go_wp2
    go_ret
    exact ⟨by rw [unhide HE]; rfl, hb1⟩
  have e0 : ((pn : Int) != N) = false := by simpa using hl
  have HE : Hid (pcode N m f cu pn P = if anyP P pn then 2 else 0) := by show pcode _ _ _ _ _ _ = _; unfold pcode; rw [if_neg (by simpa using hk), if_neg (by simpa using hl)]
  clear hk hl hcu
  go_enter Tryd.func55, Tryd.ntmps55
  go_wp2_with fail
  refine (unhide HC).mono ?_
  rintro e w1 ⟨rfl, hb1⟩
  have HP1 := hide (unhide HP w1 hb1)
  have HB := hide hb1
  clear hb1 HP
  go_wp2_with fail
  refine (unhide HP1).mono ?_
  rintro e w2 ⟨rfl, rfl⟩
  cases hb : anyP P pn with
  | true =>
    have HV : Hid (errV (pcode N m f cu pn P) = .iface 25 (.int .i64 2)) := by show errV _ = _; rw [unhide HE, hb]; rfl
    clear hb HP1
    go_wp2
    go_ret
    exact ⟨by rw [unhide HV]; rfl, unhide HB⟩
  | false =>
    have HV : Hid (errV (pcode N m f cu pn P) = .nilIface) := by show errV _ = _; rw [unhide HE, hb]; rfl
    clear hb HP1
    go_wp2
    go_ret
    exact ⟨by rw [unhide HV]; rfl, unhide HB⟩

set_option maxHeartbeats 4000000 in
set_option maxRecDepth 100000 in
theorem peopleAt_any (N : Int) (a : Option Addr) (m c : Nat) (f : Nat → T3) (pa : Option Addr) (pn pc : Nat) (P : Nat → Int) (at_ : Int) (cu : Bool) (w : World) (hN : I64 N) (hcu : Cu N.toNat m f cu) (ha : TRow w a m c f) (hp : IRow w pa pn pc P) (hpn : pn ≤ 1000) :
    Calls Tryd.prog 50 #[.int .i64 N, .slice a m c, .slice pa pn pc, .int .i64 at_] w fun e w' => e = .returned (errV (acode N m f cu pn P at_)) ∧ Below w.heap.size w w' := by
  have HC := hide (people_any N a m c f pa pn pc P cu w hN hcu ha hp hpn)
  by_cases hk : pcode N m f cu pn P = 0
  case neg =>
    rw [errV_not hk] at HC
    have HE : Hid (errV (acode N m f cu pn P at_) = errV (pcode N m f cu pn P)) := by show errV _ = _; unfold acode; rw [if_pos hk]
    rw [errV_not hk] at HE
    obtain ⟨k, hk2⟩ : ∃ k, pcode N m f cu pn P = k := ⟨_, rfl⟩
    rw [hk2] at HC HE
    clear hk hk2 hcu ha hp
    go_enter Tryd.func50, Tryd.ntmps50
    go_wp2_with fail
    refine (unhide HC).mono ?_
    rintro e w1 ⟨rfl, hb1⟩
    go_wp2
    go_ret
    exact ⟨by rw [unhide HE]; rfl, hb1⟩
  rw [hk, errV_zero] at HC
  have hk1 := (pcode_zero hk).1
  obtain ⟨n, s0, rfl, hT⟩ := kcode_zero hcu hk1
  have h1 := hT.few
  have n3 : IntKind.i64.wrap ((n : Int) - 1) = (n : Int) - 1 := by rw [IntKind.wrap_i64]; omega
  have CW : Hid (∀ W, Calls Tryd.prog 47 #[.int .i64 at_, .int .i64 ((n : Int) - 1)] W fun e w' => e = .returned (.bool (decide (0 ≤ at_ ∧ at_ ≤ (n : Int) - 1))) ∧ w' = W) := fun W => twithin_any at_ ((n : Int) - 1) W
  have HE : Hid (acode (n : Int) m f cu pn P at_ = if at_ < 0 ∨ (n : Int) ≤ at_ then 2 else 0) := by show acode _ _ _ _ _ _ _ = _; unfold acode; rw [if_neg (by simpa using hk)]
  clear ha hp hT hk hk1 hcu
  by_cases h2 : 0 ≤ at_ ∧ at_ ≤ (n : Int) - 1
  · rw [decide_eq_true h2] at CW
    have HV : Hid (errV (acode (n : Int) m f cu pn P at_) = .nilIface) := by show errV _ = _; rw [unhide HE, if_neg (by omega)]; rfl
    clear h2
    go_enter Tryd.func50, Tryd.ntmps50
    go_wp2_with fail
    refine (unhide HC).mono ?_
    rintro e w1 ⟨rfl, hb1⟩
    have HB := hide hb1
    clear hb1
    go_wp2_with fail
    refine (unhide CW _).mono ?_
    rintro e w2 ⟨rfl, rfl⟩
    go_wp2
    go_ret
    exact ⟨by rw [unhide HV]; rfl, unhide HB⟩
  · rw [decide_eq_false h2] at CW
    have HV : Hid (errV (acode (n : Int) m f cu pn P at_) = .iface 25 (.int .i64 2)) := by show errV _ = _; rw [unhide HE, if_pos (by omega)]; rfl
    clear h2
    go_enter Tryd.func50, Tryd.ntmps50
    go_wp2_with fail
    refine (unhide HC).mono ?_
    rintro e w1 ⟨rfl, hb1⟩
    have HB := hide hb1
    clear hb1
    go_wp2_with fail
    refine (unhide CW _).mono ?_
    rintro e w2 ⟨rfl, rfl⟩
    go_wp2
    go_ret
    exact ⟨by rw [unhide HV]; rfl, unhide HB⟩

/-- The cuts are the tree's, if it is one. -/
def Cuts (N : Int) (m : Nat) (f : Nat → T3) (cu : Bool) (s : Nat → Nat → Bool) : Prop := kcode N m f cu = 0 → GTree N.toNat m f s
theorem cuts_some {N : Int} {m : Nat} {f : Nat → T3} {cu : Bool} (hcu : Cu N.toNat m f cu) : ∃ s, Cuts N m f cu s := by
  by_cases h : kcode N m f cu = 0
  · obtain ⟨n, s, rfl, hT⟩ := kcode_zero hcu h
    exact ⟨s, fun _ => hT⟩
  · exact ⟨fun _ _ => true, fun h' => absurd h' h⟩
def SumE (w : World) (k v : Int) (e : Ending) (w' : World) : Prop := Below w.heap.size w w' ∧ ((k ≠ 0 ∧ e = .returned (.tuple #[.int .i64 0, .iface 25 (.int .i64 k)])) ∨ (k = 0 ∧ e = .returned (.tuple #[.int .i64 v, .nilIface])))
set_option maxHeartbeats 4000000 in
set_option maxRecDepth 100000 in
theorem Sum_any (N : Int) (a : Option Addr) (m c : Nat) (f : Nat → T3) (pa : Option Addr) (pn pc : Nat) (P : Nat → Int) (at_ : Int) (cu : Bool) (s : Nat → Nat → Bool) (w : World) (hN : I64 N) (hcu : Cu N.toNat m f cu) (hs : Cuts N m f cu s) (ha : TRow w a m c f) (hp : IRow w pa pn pc P) (hpn : pn ≤ 1000) :
    Calls Tryd.prog 22 #[.int .i64 N, .slice a m c, .slice pa pn pc, .int .i64 at_] w (SumE w (acode N m f cu pn P at_) (sumT N.toNat m f s P at_.toNat)) := by
  have HC := hide (peopleAt_any N a m c f pa pn pc P at_ cu w hN hcu ha hp hpn)
  by_cases hk : acode N m f cu pn P at_ = 0
  case neg =>
    rw [errV_not hk] at HC
    obtain ⟨k, hk2⟩ : ∃ k, acode N m f cu pn P at_ = k := ⟨_, rfl⟩
    rw [hk2] at HC hk ⊢
    have HK := hide hk
    clear hk hk2 hcu ha hp hs
    go_enter Tryd.func22, Tryd.ntmps22
    go_wp2_with fail
    refine (unhide HC).mono ?_
    rintro e w1 ⟨rfl, hb1⟩
    go_wp2
    go_ret2
    exact ⟨hb1, Or.inl ⟨unhide HK, rfl⟩⟩
  rw [hk, errV_zero] at HC
  obtain ⟨h1, h2, h3⟩ := acode_zero hk
  obtain ⟨h4, h5, h6⟩ := pcode_zero h1
  have hT := hs h4
  obtain ⟨n, rfl⟩ : ∃ n : Nat, N = (n : Int) := ⟨N.toNat, by omega⟩
  obtain ⟨p, rfl⟩ : ∃ p : Nat, at_ = (p : Int) := ⟨at_.toNat, by omega⟩
  obtain rfl : pn = n := by omega
  have HS : Hid (∀ W, Below w.heap.size w W → Calls Tryd.prog 51 #[.int .i64 (pn : Int), .slice a m c, .slice pa pn pc, .int .i64 (p : Int)] W fun e w' => e = .returned (.int .i64 (sumT pn m f s P p)) ∧ Below W.heap.size W w') := fun W hW => sum_any pn a m c f s pa pc P p W (ha.below hW) (hp.below hW) hT h6 (by omega)
  have HZ : Hid (sumT ((pn : Nat) : Int).toNat m f s P ((p : Nat) : Int).toNat = sumT pn m f s P p) := rfl
  have HK := hide hk
  clear h1 h2 h3 h4 h5 h6 hT hcu ha hp hs hk
  go_enter Tryd.func22, Tryd.ntmps22
  go_wp2_with fail
  refine (unhide HC).mono ?_
  rintro e w1 ⟨rfl, hb1⟩
  have HS1 := hide (unhide HS w1 hb1)
  have HB := hide hb1
  clear hb1 HS
  go_wp2_with fail
  refine (unhide HS1).mono ?_
  rintro e w2 ⟨rfl, hb2⟩
  have HB2 := hide (below_step (unhide HB) hb2)
  clear hb2 HS1
  go_wp2
  go_ret2
  exact ⟨unhide HB2, Or.inr ⟨unhide HK, rfl⟩⟩

/-- The first of the least. -/
def lst (g : Nat → Int) : Nat → Nat × Int
  | 0 => (0, g 0)
  | k + 1 => if g (k + 1) < (lst g k).2 then (k + 1, g (k + 1)) else lst g k
theorem lst_at (g : Nat → Int) : ∀ k, (lst g k).1 ≤ k ∧ (lst g k).2 = g (lst g k).1
  | 0 => ⟨Nat.le_refl _, rfl⟩
  | k + 1 => by
    have ih := lst_at g k
    show (if g (k + 1) < (lst g k).2 then (k + 1, g (k + 1)) else lst g k).1 ≤ k + 1 ∧ (if g (k + 1) < (lst g k).2 then (k + 1, g (k + 1)) else lst g k).2 = g (if g (k + 1) < (lst g k).2 then (k + 1, g (k + 1)) else lst g k).1
    split
    · exact ⟨Nat.le_refl _, rfl⟩
    · exact ⟨by omega, ih.2⟩
theorem lst_min (g : Nat → Int) : ∀ k i, i ≤ k → (lst g k).2 ≤ g i
  | 0, i, h => by obtain rfl : i = 0 := by omega
                  exact Int.le_refl _
  | k + 1, i, h => by
    have ih := lst_min g k
    show (if g (k + 1) < (lst g k).2 then (k + 1, g (k + 1)) else lst g k).2 ≤ g i
    by_cases c : i = k + 1
    · subst c
      split
      · exact Int.le_refl _
      · omega
    · have := ih i (by omega)
      split
      · show g (k + 1) ≤ g i; omega
      · exact this

def Bx (w : World) (b : Nat) (v : Value) : Prop := w.cell? ⟨b, 0, none⟩ = some v ∧ b < w.heap.size
theorem Bx.keep {w w' : World} {b : Nat} {v : Value} (h : Bx w b v) (hb : Below w.heap.size w w') : Bx w' b v := ⟨by rw [hb.cell (p := ⟨b, 0, none⟩) h.2]; exact h.1, Nat.lt_of_lt_of_le h.2 hb.size⟩
theorem Bx.new (w : World) (v : Value) (T : TypeId) : Bx (w.alloc (.cells #[v] T)) w.heap.size v := ⟨by simp only [World.cell?, heap_alloc_new]; rfl, by rw [alloc_size]; exact Nat.lt_succ_self _⟩
structure MEnv (W : World) (b0 b1 b2 n : Nat) (a : Option Addr) (m c : Nat) (f : Nat → T3) (s : Nat → Nat → Bool) (pa : Option Addr) (pc : Nat) (P : Nat → Int) : Prop where
  c0 : Bx W b0 (.int .i64 (n : Int))
  c1 : Bx W b1 (.slice a m c)
  c2 : Bx W b2 (.slice pa n pc)
  tr : TRow W a m c f
  pr : IRow W pa n pc P
  gt : GTree n m f s
  gp : GoodP n P
theorem MEnv.keep {W W' : World} {b0 b1 b2 n : Nat} {a : Option Addr} {m c : Nat} {f : Nat → T3} {s : Nat → Nat → Bool} {pa : Option Addr} {pc : Nat} {P : Nat → Int} (h : MEnv W b0 b1 b2 n a m c f s pa pc P) (hb : Below W.heap.size W W') : MEnv W' b0 b1 b2 n a m c f s pa pc P :=
  ⟨h.c0.keep hb, h.c1.keep hb, h.c2.keep hb, h.tr.below hb, h.pr.below hb, h.gt, h.gp⟩
set_option maxHeartbeats 4000000 in
theorem mid1_any (n : Nat) (b0 b1 b2 : Nat) (a : Option Addr) (m c : Nat) (f : Nat → T3) (s : Nat → Nat → Bool) (pa : Option Addr) (pc : Nat) (P : Nat → Int) (W : World) (h : MEnv W b0 b1 b2 n a m c f s pa pc P) (i : Nat) (hi : i < n) :
    Calls Tryd.prog 57 #[.int .i64 (i : Int), .pointer (some ⟨b0, 0, none⟩), .pointer (some ⟨b1, 0, none⟩), .pointer (some ⟨b2, 0, none⟩)] W fun e w' => e = .returned (.int .i64 (sumT n m f s P i)) ∧ Below W.heap.size W w' := by
  have HC := hide (sum_any n a m c f s pa pc P i W h.tr h.pr h.gt h.gp hi)
  have k0 := h.c0.1
  have k1 := h.c1.1
  have k2 := h.c2.1
  clear h
  go_enter Tryd.func57, Tryd.ntmps57
  go_wp2_with fail
  refine (unhide HC).mono ?_
  rintro e w1 ⟨rfl, hb1⟩
  go_wp2
  go_ret
  exact ⟨rfl, hb1⟩

set_option maxHeartbeats 4000000 in
set_option maxRecDepth 100000 in
theorem leastMid_any (n : Nat) (b0 b1 b2 : Nat) (a : Option Addr) (m c : Nat) (f : Nat → T3) (s : Nat → Nat → Bool) (pa : Option Addr) (pc : Nat) (P : Nat → Int) (w : World) (hn1 : 1 ≤ n) (hn : n ≤ 60) (h : MEnv w b0 b1 b2 n a m c f s pa pc P) :
    Calls Tryd.prog 56 #[.int .i64 (n : Int), .func (.func 57) #[] #[.pointer (some ⟨b0, 0, none⟩), .pointer (some ⟨b1, 0, none⟩), .pointer (some ⟨b2, 0, none⟩)]] w fun e w' => e = .returned (.tuple #[.int .i64 (((lst (sumT n m f s P) (n - 1)).1 : Nat) : Int), .int .i64 (lst (sumT n m f s P) (n - 1)).2]) ∧ Below w.heap.size w w' := by
  have HC : Hid (∀ (i : Nat) W, i < n → Below w.heap.size w W → Calls Tryd.prog 57 #[.int .i64 (i : Int), .pointer (some ⟨b0, 0, none⟩), .pointer (some ⟨b1, 0, none⟩), .pointer (some ⟨b2, 0, none⟩)] W fun e w' => e = .returned (.int .i64 ((sumT n m f s P) i)) ∧ Below W.heap.size W w') := fun i W hi hW => mid1_any n b0 b1 b2 a m c f s pa pc P W (h.keep hW) i hi
  obtain ⟨V, hV⟩ : ∃ V : Nat → Int, (sumT n m f s P) = V := ⟨_, rfl⟩
  rw [hV] at HC ⊢
  clear h hV
  have HC0 : Hid (Calls Tryd.prog 57 #[.int .i64 0, .pointer (some ⟨b0, 0, none⟩), .pointer (some ⟨b1, 0, none⟩), .pointer (some ⟨b2, 0, none⟩)] w fun e w' => e = .returned (.int .i64 (V 0)) ∧ Below w.heap.size w w') := unhide HC 0 w (by omega) (Below.refl _ _)
  go_enter Tryd.func56, Tryd.ntmps56
  go_wp2_with fail
  refine (unhide HC0).mono ?_
  rintro e w1 ⟨rfl, hb1⟩
  have HB := hide hb1
  clear hb1 HC0
  go_wp2_with fail
  go_loopw [8, 6, 7] (fun vi vb vl wr => ∃ k : Nat, vi = .int .i64 ((k + 1 : Nat) : Int) ∧ k + 1 ≤ n ∧ vb = .int .i64 (((lst V k).1 : Nat) : Int) ∧ vl = .int .i64 (lst V k).2 ∧ Below w.heap.size w wr) (fun vi _ _ _ => n - (intOf vi).toNat)
  case atStart => exact ⟨0, rfl, hn1, rfl, rfl, unhide HB⟩
  case round =>
    obtain ⟨k, rfl, hk, rfl, rfl, hb⟩ := hrel
    clear HB
    obtain ⟨k1, hk1⟩ : ∃ k1, k + 1 = k1 := ⟨_, rfl⟩
    have HS : Hid (lst V k1 = if V k1 < (lst V k).2 then (k1, V k1) else lst V k) := by show lst V k1 = _; rw [← hk1]; rfl
    rw [hk1] at hk ⊢
    have HKE := hide hk1
    clear hk1
    by_cases hlt : k1 < n
    · have C1 := hide (unhide HC k1 wr hlt hb)
      have HB := hide hb
      obtain ⟨⟨bs, lo⟩, hs⟩ : ∃ s, lst V k = s := ⟨_, rfl⟩
      obtain ⟨x, hx⟩ : ∃ x, V k1 = x := ⟨_, rfl⟩
      rw [hs, hx] at HS
      rw [hx] at C1
      rw [hs]
      simp only at HS ⊢
      have e1 : (k1 : Int) < (n : Int) := by omega
      have e2 : IntKind.i64.wrap ((k1 : Int) + 1) = ((k1 + 1 : Nat) : Int) := by rw [IntKind.wrap_i64]; omega
      clear hb hs hx
      by_cases hxl : x < lo
      · have HS2 : Hid (lst V k1 = (k1, x)) := by show lst V k1 = _; rw [unhide HS, if_pos hxl]
        go_wp2_with fail
        refine (unhide C1).mono ?_
        rintro e w2 ⟨rfl, hb2⟩
        have HB2 := hide (below_step (unhide HB) hb2)
        clear hb2 HB C1
        go_wp2
        exact ⟨⟨k1, rfl, hlt, by rw [unhide HS2], by rw [unhide HS2], unhide HB2⟩, by simp [intOf]; omega⟩
      · have HS2 : Hid (lst V k1 = (bs, lo)) := by show lst V k1 = _; rw [unhide HS, if_neg hxl]
        go_wp2_with fail
        refine (unhide C1).mono ?_
        rintro e w2 ⟨rfl, hb2⟩
        have HB2 := hide (below_step (unhide HB) hb2)
        clear hb2 HB C1
        go_wp2
        exact ⟨⟨k1, rfl, hlt, by rw [unhide HS2], by rw [unhide HS2], unhide HB2⟩, by simp [intOf]; omega⟩
    · have hkn : k = n - 1 := by have := unhide HKE; omega
      have hk1n : k1 = n := by omega
      have HB := hide hb
      have e1 : ¬ (k1 : Int) < (n : Int) := by omega
      have HS2 : Hid (lst V k = lst V (n - 1)) := by show lst V k = _; rw [hkn]
      clear hb hkn hk1n HS
      go_wp2
      go_ret2
      exact ⟨by rw [unhide HS2]; rfl, unhide HB⟩

def MidE (w : World) (k x y : Int) (e : Ending) (w' : World) : Prop := Below w.heap.size w w' ∧ ((k ≠ 0 ∧ e = .returned (.tuple #[.int .i64 0, .int .i64 0, .iface 25 (.int .i64 k)])) ∨ (k = 0 ∧ e = .returned (.tuple #[.int .i64 x, .int .i64 y, .nilIface])))
set_option maxHeartbeats 8000000 in
set_option maxRecDepth 100000 in
theorem Middle_any (N : Int) (a : Option Addr) (m c : Nat) (f : Nat → T3) (pa : Option Addr) (pn pc : Nat) (P : Nat → Int) (cu : Bool) (s : Nat → Nat → Bool) (w : World) (hN : I64 N) (hcu : Cu N.toNat m f cu) (hs : Cuts N m f cu s) (ha : TRow w a m c f) (hp : IRow w pa pn pc P) (hpn : pn ≤ 1000) :
    Calls Tryd.prog 25 #[.int .i64 N, .slice a m c, .slice pa pn pc] w (MidE w (pcode N m f cu pn P) (((lst (sumT pn m f s P) (pn - 1)).1 : Nat) : Int) (lst (sumT pn m f s P) (pn - 1)).2) := by
  have X0 := Bx.new w (.int .i64 N) 3
  have B0 := alloc_below w (.cells #[.int .i64 N] 3)
  obtain ⟨W1, hW1⟩ : ∃ W, w.alloc (.cells #[.int .i64 N] 3) = W := ⟨_, rfl⟩
  obtain ⟨b0, hb0⟩ : ∃ b, w.heap.size = b := ⟨_, rfl⟩
  rw [hW1] at X0 B0
  rw [hb0] at X0
  have X1 := Bx.new W1 (.slice a m c) 22
  have B1 := alloc_below W1 (.cells #[.slice a m c] 22)
  obtain ⟨W2, hW2⟩ : ∃ W, W1.alloc (.cells #[.slice a m c] 22) = W := ⟨_, rfl⟩
  obtain ⟨b1, hb1⟩ : ∃ b, W1.heap.size = b := ⟨_, rfl⟩
  rw [hW2] at X1 B1
  rw [hb1] at X1
  have X2 := Bx.new W2 (.slice pa pn pc) 31
  have B2 := alloc_below W2 (.cells #[.slice pa pn pc] 31)
  obtain ⟨W3, hW3⟩ : ∃ W, W2.alloc (.cells #[.slice pa pn pc] 31) = W := ⟨_, rfl⟩
  obtain ⟨b2, hb2⟩ : ∃ b, W2.heap.size = b := ⟨_, rfl⟩
  rw [hW3] at X2 B2
  rw [hb2] at X2
  have X0 := (X0.keep B1).keep B2
  have X1 := X1.keep B2
  have BA := below_step (below_step B0 B1) B2
  have HB := hide BA
  have HA := hide (ha.below BA)
  have HP := hide (hp.below BA)
  have HX0 := hide X0
  have HX1 := hide X1
  have HX2 := hide X2
  have k0 := X0.1
  have k1 := X1.1
  have k2 := X2.1
  have HC := hide (people_any N a m c f pa pn pc P cu W3 hN hcu (ha.below BA) (hp.below BA) hpn)
  clear X0 X1 X2 B0 B1 B2 BA ha hp
  by_cases hk : pcode N m f cu pn P = 0
  case neg =>
    rw [errV_not hk] at HC
    obtain ⟨k, hk2⟩ : ∃ k, pcode N m f cu pn P = k := ⟨_, rfl⟩
    rw [hk2] at HC hk ⊢
    have HK := hide hk
    clear hk hk2 hcu hs
    go_enter Tryd.func25, Tryd.ntmps25
    go_wp2_with fail
    refine (unhide HC).mono ?_
    rintro e w1 ⟨rfl, hb1'⟩
    have HB1 := hide (below_step (unhide HB) hb1')
    clear hb1' k0 k1 k2 hW1 hW2 hW3 hb0 hb1 hb2
    go_wp2
    go_ret3
    exact ⟨unhide HB1, Or.inl ⟨unhide HK, rfl⟩⟩
  rw [hk, errV_zero] at HC
  obtain ⟨h4, h5, h6⟩ := pcode_zero hk
  have hT := hs h4
  obtain rfl : N = (pn : Int) := h5.symm
  have HENV : Hid (∀ W, Below W3.heap.size W3 W → MEnv W b0 b1 b2 pn a m c f s pa pc P) := fun W hW => ⟨(unhide HX0).keep hW, (unhide HX1).keep hW, (unhide HX2).keep hW, (unhide HA).below hW, (unhide HP).below hW, hT, h6⟩
  have h60 := hT.few
  have h01 := hT.one
  have HK := hide hk
  clear hT h4 h5 h6 hs hcu hk
  go_enter Tryd.func25, Tryd.ntmps25
  go_wp2_with fail
  refine (unhide HC).mono ?_
  rintro e w1 ⟨rfl, hb1'⟩
  have HB1 := hide (below_step (unhide HB) hb1')
  have HE1 := hide (unhide HENV w1 hb1')
  have k3 := (unhide HE1).c0.1
  have HL := hide (leastMid_any pn b0 b1 b2 a m c f s pa pc P w1 h01 h60 (unhide HE1))
  clear hb1' k0 k1 k2 hW1 hW2 hW3 hb0 hb1 hb2 HC HENV
  go_wp2_with fail
  refine (unhide HL).mono ?_
  rintro e w2 ⟨rfl, hb2'⟩
  have HB2 := hide (below_step (unhide HB1) hb2')
  clear hb2' HL
  go_wp2
  go_ret3
  exact ⟨unhide HB2, Or.inr ⟨unhide HK, rfl⟩⟩
end Go.Proofs.YtcmddkekidgkoaaDoor
