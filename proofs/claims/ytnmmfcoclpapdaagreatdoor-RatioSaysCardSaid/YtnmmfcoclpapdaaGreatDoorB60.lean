/- RatioSays. -/
import Derived.Test.YtnmmfcoclpapdaaGreatDoorB57
import Derived.Test.YtnmmfcoclpapdaaGreatDoorB48
import Derived.Test.YtnmmfcoclpapdaaGreatDoorBI
import Derived.Test.YtnmmfcoclpapdaaGreatDoorA15
import Derived.Test.YtnmmfcoclpapdaaGreatDoorA8
namespace Go.Proofs.YtnmmfcoclpapdaaGreatDoor
open Go.RowKit Go.Sort Go.Shelf

def zTri : Tri := ⟨false, none, none, 0, 0, 0, 0⟩
theorem heap_kept {W W' : World} {b : Nat} {o : Obj} (h : W.heap[b]? = some o) (hb : Below W.heap.size W W') : W'.heap[b]? = some o := by
  rw [hb.block _ (Array.getElem?_eq_some_iff.1 h).1]; exact h
/-- Block b holds the fraction q, written t. -/
def BoxIs (W : World) (b : Nat) (t : Tri) (q : Rat) : Prop := W.heap[b]? = some (.cells #[.bool t.s, .slice t.a1 t.n1 t.c1, .slice t.a2 t.n2 t.c2] 27) ∧ RatIs W t.val q
theorem BoxIs.keep {W W' : World} {b : Nat} {t : Tri} {q : Rat} (h : BoxIs W b t q) (hb : Below W.heap.size W W') : BoxIs W' b t q := ⟨heap_kept h.1 hb, h.2.below hb⟩
theorem BoxIs.new {w : World} {t : Tri} {q : Rat} (h : RatIs w t.val q) : BoxIs (w.alloc (.cells #[.bool t.s, .slice t.a1 t.n1 t.c1, .slice t.a2 t.n2 t.c2] 27)) w.heap.size t q :=
  ⟨heap_alloc_new w _, h.below (alloc_below w _)⟩
/-- The cells, in a world that has grown. -/
theorem BoxIs.cells {W : World} {b : Nat} {t : Tri} {q : Rat} (h : BoxIs W b t q) : ∀ W', Below W.heap.size W W' → W'.cell? ⟨b, 0, none⟩ = some (.bool t.s) ∧ W'.cell? ⟨b, 1, none⟩ = some (.slice t.a1 t.n1 t.c1) ∧ W'.cell? ⟨b, 2, none⟩ = some (.slice t.a2 t.n2 t.c2) := fun W' hb => by
  have ⟨k0, k1, k2, _, _, _⟩ := box_cell (heap_kept h.1 hb)
  exact ⟨k0, k1, k2⟩
theorem BoxIs.free {W : World} {b : Nat} {t : Tri} {q : Rat} (h : BoxIs W b t q) : W.frozen? ⟨b, 0, none⟩ = false ∧ W.frozen? ⟨b, 1, none⟩ = false ∧ W.frozen? ⟨b, 2, none⟩ = false := by
  have ⟨_, _, _, f0, f1, f2⟩ := box_cell h.1
  exact ⟨f0, f1, f2⟩
theorem BoxIs.lt {W : World} {b : Nat} {t : Tri} {q : Rat} (h : BoxIs W b t q) : b < W.heap.size := (Array.getElem?_eq_some_iff.1 h.1).1
theorem RatIs.boxSet {W : World} {b : Nat} {t : Tri} {q : Rat} {v : Value} {q' : Rat} (h : RatIs W v q') (hb : BoxIs W b t q) (x0 x1 x2 : Value) : RatIs (((W.setCell ⟨b, 0, none⟩ x0).setCell ⟨b, 1, none⟩ x1).setCell ⟨b, 2, none⟩ x2) v q' := by
  refine h.other hb.1 (noWord3 _ _ _ _ _ _ _ _ _) (by simp [World.setCell]) (fun k hk => ?_)
  rw [Below.heap_setCell _ _ _ _ hk, Below.heap_setCell _ _ _ _ hk, Below.heap_setCell _ _ _ _ hk]
/-- A fraction is put into the box. -/
theorem BoxIs.set {W : World} {b : Nat} {t t' : Tri} {q q' : Rat} (h : BoxIs W b t q) (hr : RatIs W t'.val q') : BoxIs (((W.setCell ⟨b, 0, none⟩ (.bool t'.s)).setCell ⟨b, 1, none⟩ (.slice t'.a1 t'.n1 t'.c1)).setCell ⟨b, 2, none⟩ (.slice t'.a2 t'.n2 t'.c2)) b t' q' :=
  ⟨box_set h.1, hr.boxSet h _ _ _⟩
theorem BoxIs.other {W : World} {b c : Nat} {t u : Tri} {q r : Rat} (h : BoxIs W b t q) (hc : BoxIs W c u r) (hne : b ≠ c) (x0 x1 x2 : Value) : BoxIs (((W.setCell ⟨c, 0, none⟩ x0).setCell ⟨c, 1, none⟩ x1).setCell ⟨c, 2, none⟩ x2) b t q :=
  ⟨by rw [Below.heap_setCell _ _ _ _ hne, Below.heap_setCell _ _ _ _ hne, Below.heap_setCell _ _ _ _ hne]; exact h.1, h.2.boxSet hc _ _ _⟩
set_option maxHeartbeats 4000000 in
set_option maxRecDepth 100000 in
theorem divR_zero (va vb : Value) (qa qb : Rat) (w : World) (ha : RatIs w va qa) (hb : RatIs w vb qb) (hz : qb.num = 0) :
    Calls Tryz.prog 13 #[va, vb] w fun e w' => e = .returned (.tuple #[.agg #[.bool false, .slice none 0 0, .slice none 0 0], .iface 35 (.int .i64 11)]) ∧ Below w.heap.size w w' := by
  have HB := hide hb
  have hsz : qb.num.sign = 0 := by rw [hz]; rfl
  obtain ⟨ov, un, rfl, h1, h2⟩ := ha
  obtain ⟨ov', un', rfl, h1', h2'⟩ := hb
  obtain ⟨a, n, c, rfl, _, _⟩ := h1
  obtain ⟨a2, n2, c2, rfl, _, _⟩ := h2
  obtain ⟨b, m, d, rfl, _, _⟩ := h1'
  obtain ⟨b2, m2, d2, rfl, _, _⟩ := h2'
  obtain ⟨sa, hsa⟩ : ∃ s, decide (qa.num < 0) = s := ⟨_, rfl⟩
  obtain ⟨sb, hsb⟩ : ∃ s, decide (qb.num < 0) = s := ⟨_, rfl⟩
  rw [hsb] at HB
  rw [hsa, hsb]
  obtain ⟨W, hW⟩ : ∃ W, ((w.alloc (.cells #[.bool sa, .slice a n c, .slice a2 n2 c2] 27)).alloc (.cells #[.bool sb, .slice b m d, .slice b2 m2 d2] 27)).alloc (.cells #[.bool false, .slice none 0 0, .slice none 0 0] 27) = W := ⟨_, rfl⟩
  have hbW : Below w.heap.size w W := by rw [← hW]; exact (((Below.refl _ _).alloc (Nat.le_refl _) _).alloc (by simp) _).alloc (by simp; omega) _
  have S0 : ∀ w', Below W.heap.size W w' → (w'.cell? ⟨w.heap.size, 0, none⟩ = some (.bool sa) ∧ w'.cell? ⟨w.heap.size, 1, none⟩ = some (.slice a n c) ∧ w'.cell? ⟨w.heap.size, 2, none⟩ = some (.slice a2 n2 c2) ∧
    w'.cell? ⟨w.heap.size + 1, 0, none⟩ = some (.bool sb) ∧ w'.cell? ⟨w.heap.size + 1, 1, none⟩ = some (.slice b m d) ∧ w'.cell? ⟨w.heap.size + 1, 2, none⟩ = some (.slice b2 m2 d2)) ∧
    w'.heap[w.heap.size + 2]? = some (.cells #[.bool false, .slice none 0 0, .slice none 0 0] 27) ∧ w.heap.size + 2 < w'.heap.size := fun w' h => by
    rw [← hW] at h
    exact three_boxes h
  have CB : ∀ w1, Below W.heap.size W w1 → Calls Tryz.prog 29 #[.agg #[.bool sb, .slice b m d, .slice b2 m2 d2]] w1 fun e w' => e = .returned (.int .i64 0) ∧ Below W.heap.size W w' := fun w1 h1 =>
    (sign_any _ qb w1 (((unhide HB).below hbW).below h1)).mono (by rintro e w' ⟨rfl, h⟩; rw [hsz]; exact ⟨rfl, below_step h1 h⟩)
  have HS0 := hide S0
  have HCB := hide CB
  have HWE := hide hW
  have HBW := hide hbW
  have hR := hide (Below.refl W.heap.size W)
  clear hW hbW S0 CB hsa hsb hz hsz HB
  go_enter Tryz.func13, Tryz.ntmps13
  go_wp2_with fail
  rw [unhide HWE]
  refine (unhide HCB _ (unhide hR)).mono ?_
  rintro e w1 ⟨rfl, hb1⟩
  have ⟨_, hbx, hsz⟩ := unhide HS0 _ hb1
  have ⟨g0, g1, g2, f0, f1, f2⟩ := box_cell hbx
  have HBX := hide hbx
  clear hbx
  go_wp2
  have ⟨r1, r2⟩ := rat_boxed (w0 := w) (rat_zero w1) (unhide HBX) (below_step (unhide HBW) hb1) (by omega) (Value.bool false) (Value.slice none 0 0) (Value.slice none 0 0)
  exact bodyPost_ret (v := .tuple #[.agg #[.bool false, .slice none 0 0, .slice none 0 0], .iface 35 (.int .i64 11)]) (by simp [results, Tryz.results13, go_sem, g0, g1, g2]) rfl ⟨rfl, r2⟩

/-- What Div says, of both endings. -/
def DivSays (w : World) (qa qb : Rat) (e : Ending) (w' : World) : Prop := ∃ (t : Tri) (er : Value), e = .returned (.tuple #[t.val, er]) ∧ Below w.heap.size w w' ∧ ((qb.num ≠ 0 ∧ er = .nilIface ∧ RatIs w' t.val (qa / qb)) ∨ (qb.num = 0 ∧ er = .iface 35 (.int .i64 11) ∧ RatIs w' t.val 0))
theorem div_says (va vb : Value) (qa qb : Rat) (w : World) (ha : RatIs w va qa) (hb : RatIs w vb qb) (rqa : RS qa 1) (rqb : RS qb 1) :
    Calls Tryz.prog 13 #[va, vb] w (DivSays w qa qb) := by
  by_cases hz : qb.num = 0
  · refine (divR_zero va vb qa qb w ha hb hz).mono ?_
    rintro e w' ⟨rfl, hb'⟩
    exact ⟨⟨false, none, none, 0, 0, 0, 0⟩, _, rfl, hb', Or.inr ⟨hz, rfl, rat_zero _⟩⟩
  · refine (divR_any va vb qa qb w ha hb 1 rqa rqb (by decide) hz).mono ?_
    rintro e w' ⟨v, rfl, hv, hb'⟩
    obtain ⟨t, rfl, hr⟩ := tri_of hv
    exact ⟨t, _, rfl, hb', Or.inl ⟨hz, rfl, hr⟩⟩
theorem pq_bd {x y : Int} (hx : I64 x) (hy : I64 y) : ((pq (x, y)).num.natAbs : Int) ≤ 9223372036854775808 := by
  have key : ∀ (z : Int) (d : Nat), d ≠ 0 → I64 z ∨ I64 (-z) → ((mkRat z d).num.natAbs : Int) ≤ 9223372036854775808 := fun z d hd hz => by
    have := (mkRat_bd z d hd).1
    rcases hz with h | h
    · have := h.1; have := h.2; omega
    · have := h.1; have := h.2; omega
  unfold pq
  by_cases h0 : y = 0
  · subst h0
    rw [if_pos rfl]
    have e : Rat.divInt x 1 = mkRat x 1 := (div_abs (N := x) (D := 1) (by decide)).symm
    rw [e]
    exact key x 1 (by decide) (Or.inl hx)
  · rw [if_neg h0]
    by_cases hn : y < 0
    · rw [← div_neg hn]
      exact key (-x) _ (by omega) (Or.inr (by rw [Int.neg_neg]; exact hx))
    · rw [← div_abs hn]
      exact key x _ (by omega) (Or.inl hx)
theorem floor_bd {n : Int} {d : Nat} (hd : 0 < d) (h : (n.natAbs : Int) ≤ 9223372036854775808) : -9223372036854775808 ≤ n / (d : Int) ∧ n / (d : Int) ≤ 9223372036854775808 := by
  have hd' : (0 : Int) < (d : Int) := by omega
  refine ⟨(Int.le_ediv_iff_mul_le hd').2 ?_, ?_⟩
  · have : (9223372036854775808 : Int) * 1 ≤ 9223372036854775808 * (d : Int) := Int.mul_le_mul_of_nonneg_left (by omega) (by decide)
    omega
  · have : n / (d : Int) < 9223372036854775809 := (Int.ediv_lt_iff_lt_mul hd').2 (by
      have : (9223372036854775809 : Int) * 1 ≤ 9223372036854775809 * (d : Int) := Int.mul_le_mul_of_nonneg_left (by omega) (by decide)
      omega)
    omega
/-- What the first region holds: two fractions, two boxes. -/
structure SayJ (w0 : World) (qa qb : Rat) (s : Nat × Bool × Bool) (w : World) (v17 v19 v5 v6 : Value) : Prop where
  bl : Below w0.heap.size w0 w
  r1 : 1 ≤ s.1 → RatIs w v17 qa
  r2 : 2 ≤ s.1 → RatIs w v19 qb
  a1 : s.2.1 = true → ∃ b, v5 = .pointer (some ⟨b, 0, none⟩) ∧ BoxIs w b zTri 0 ∧ w0.heap.size ≤ b
  a2 : s.2.2 = true → ∃ b, v6 = .pointer (some ⟨b, 0, none⟩) ∧ BoxIs w b zTri 0 ∧ w0.heap.size ≤ b
  ne : s.2.1 = true → s.2.2 = true → v5 ≠ v6
  bd : s.1 ≤ 2
theorem SayJ.keep {w0 w w' : World} {qa qb : Rat} {s : Nat × Bool × Bool} {v17 v19 v5 v6 : Value} (J : SayJ w0 qa qb s w v17 v19 v5 v6) (hb : Below w.heap.size w w') : SayJ w0 qa qb s w' v17 v19 v5 v6 :=
  ⟨bstep J.bl hb, fun h => (J.r1 h).below hb, fun h => (J.r2 h).below hb, fun h => by obtain ⟨b, e1, e2, e3⟩ := J.a1 h; exact ⟨b, e1, e2.keep hb, e3⟩, fun h => by obtain ⟨b, e1, e2, e3⟩ := J.a2 h; exact ⟨b, e1, e2.keep hb, e3⟩, J.ne, J.bd⟩
def nextSay (s : Nat × Bool × Bool) (i : Nat) : Option (Nat × Bool × Bool) :=
  if i = 4 ∧ s.2.1 = false then some (s.1, true, s.2.2) else if i = 5 ∧ s.2.2 = false then some (s.1, s.2.1, true)
  else if i = 1 ∧ s.1 = 0 then some (1, s.2.1, s.2.2) else if i = 3 ∧ s.1 = 1 then some (2, s.2.1, s.2.2) else none
theorem checkSay {g fin : Nat × Bool × Bool → Bool} (hb : ∀ s : Nat × Bool × Bool, 4 < s.1 → fin s = true) (h : (upto5 fun k => allB fun c0 => allB fun c1 => fin (k, c0, c1) || g (k, c0, c1)) = true) : ∀ s, fin s = false → g s = true := by
  rintro ⟨k, c0, c1⟩ hs
  have hk : k ≤ 4 := by
    rcases Nat.lt_or_ge 4 k with h1 | h1
    · rw [hb _ h1] at hs; cases hs
    · exact h1
  have q := allB_of (allB_of (upto5_of h k hk) c0) c1
  rw [hs, Bool.false_or] at q
  exact q
theorem RS.sub3 {a b : Rat} (ha : RS a 1) (hb : RS b 1) : RS (a - b) 3 := by
  rw [Rat.sub_eq_add_neg]
  exact (ha.add hb.neg).mono (by decide)
theorem sign_zero {x : Int} : (x.sign == 0) = decide (x = 0) := by
  by_cases h : x = 0
  · subst h; rfl
  · rw [decide_eq_false h, beq_eq_false_iff_ne]
    exact fun e => h (Int.sign_eq_zero_iff_zero.1 e)
set_option maxHeartbeats 16000000 in
set_option maxRecDepth 100000 in
set_option linter.unusedSimpArgs false in
theorem ratioSays_any (x1 y1 x2 y2 : Int) (w : World) (i1 : I64 x1) (i2 : I64 y1) (i3 : I64 x2) (i4 : I64 y2) (htab : Tab w) (hg : ErrTy w) :
    Calls Tryz.prog 3 #[.agg #[.int .i64 x1, .int .i64 y1], .agg #[.int .i64 x2, .int .i64 y2]] w fun e w' => e = .returned (.bool true) ∧ Below w.heap.size w w' := by
  have bA := abelow w (.cells #[.int .i64 x1, .int .i64 y1] 23)
  have bB := abelow (w.alloc (.cells #[.int .i64 x1, .int .i64 y1] 23)) (.cells #[.int .i64 x2, .int .i64 y2] 23)
  have hx0 := heap_alloc_new w (.cells #[.int .i64 x1, .int .i64 y1] 23)
  have hx1 := heap_alloc_new (w.alloc (.cells #[.int .i64 x1, .int .i64 y1] 23)) (.cells #[.int .i64 x2, .int .i64 y2] 23)
  obtain ⟨Wa, hWa⟩ : ∃ W, w.alloc (.cells #[.int .i64 x1, .int .i64 y1] 23) = W := ⟨_, rfl⟩
  rw [hWa] at bA bB hx0 hx1
  obtain ⟨W1, hW1⟩ : ∃ W, Wa.alloc (.cells #[.int .i64 x2, .int .i64 y2] 23) = W := ⟨_, rfl⟩
  rw [hW1] at bB hx1
  obtain ⟨g0, hg0⟩ : ∃ g, w.heap.size = g := ⟨_, rfl⟩
  obtain ⟨g1, hg1⟩ : ∃ g, Wa.heap.size = g := ⟨_, rfl⟩
  rw [hg0] at hx0
  rw [hg1] at hx1
  have HC1 : Hid (∀ W, Below W1.heap.size W1 W → (fun w' : World => (w'.cell? ⟨g0, 0, none⟩ = some (.int .i64 x1) ∧ w'.cell? ⟨g0, 1, none⟩ = some (.int .i64 y1)) ∧ w'.cell? ⟨g1, 0, none⟩ = some (.int .i64 x2) ∧ w'.cell? ⟨g1, 1, none⟩ = some (.int .i64 y2)) W) := fun W hW => by
    have l0 : g0 < Wa.heap.size := (Array.getElem?_eq_some_iff.1 hx0).1
    have l1 : g1 < W1.heap.size := (Array.getElem?_eq_some_iff.1 hx1).1
    have l0' : g0 < W1.heap.size := Nat.lt_of_lt_of_le l0 bB.size
    refine ⟨⟨?_, ?_⟩, ?_, ?_⟩
    · rw [hW.cell (p := ⟨g0, 0, none⟩) l0', bB.cell (p := ⟨g0, 0, none⟩) l0]; simp [World.cell?, hx0]
    · rw [hW.cell (p := ⟨g0, 1, none⟩) l0', bB.cell (p := ⟨g0, 1, none⟩) l0]; simp [World.cell?, hx0]
    · rw [hW.cell (p := ⟨g1, 0, none⟩) l1]; simp [World.cell?, hx1]
    · rw [hW.cell (p := ⟨g1, 1, none⟩) l1]; simp [World.cell?, hx1]
  have HBW := hide (bstep bA bB)
  have HTB := hide (tab_below htab (bstep bA bB))
  have HGT := hide (hg.below (bstep bA bB))
  have qa1 := pq_RS (p := (x1, y1)) i1 i2
  have qb1 := pq_RS (p := (x2, y2)) i3 i4
  have HQA := hide qa1
  have HQB := hide qb1
  have HPB := hide (pq_bd i1 i2)
  have HSM : Hid (Sm (pq (x1, y1)).num.natAbs) := sm_of qa1.1 (by decide)
  have HP8 : Hid (((pq (x1, y1)).num.natAbs : Int) < Wd.pw 8) := Int.lt_of_lt_of_le qa1.1 (Wd.pw_mono (by decide))
  have HDN : Hid (((pq (x1, y1)).den : Int) < 18446744073709551616) := by have := qa1.2; rw [Wd.pw_one] at this; exact this
  have HI1 := hide i1
  have HI2 := hide i2
  have HI3 := hide i3
  have HI4 := hide i4
  obtain ⟨S0, hS0⟩ : ∃ S : ByteArray, ⟨(qtext (pq (x1, y1))).toArray⟩ = S := ⟨_, rfl⟩
  have rs0 : RS (pq (x1, y1)) 3 := qa1.mono (by decide)
  have HT0 : Hid (∀ W v, Below W1.heap.size W1 W → RatIs W v (pq (x1, y1)) → Calls Tryz.prog 19 #[v] W fun e w' => e = .returned (.string S0) ∧ Below W.heap.size W w') := fun W v hW hr => by rw [← hS0]; exact textR_any v _ W hr 3 rs0 (by decide) (tab_below (unhide HTB) hW)
  have HU0 : Hid (∀ W b, Below W1.heap.size W1 W → BRz W b 0 (pq (x1, y1)) → Calls Tryz.prog 20 #[.pointer (some ⟨b, 0, none⟩)] W fun e w' => e = .returned (.string S0) ∧ Below W.heap.size W w') := fun W b hW hr => by rw [← hS0]; exact refTextz_any b 0 3 _ W hr rs0 (by decide)
  clear hS0
  obtain ⟨S1, hS1⟩ : ∃ S : ByteArray, ⟨(qtext (pq (x1, y1) + pq (x2, y2))).toArray⟩ = S := ⟨_, rfl⟩
  have rs1 : RS (pq (x1, y1) + pq (x2, y2)) 3 := (qa1.add qb1).mono (by decide)
  have HT1 : Hid (∀ W v, Below W1.heap.size W1 W → RatIs W v (pq (x1, y1) + pq (x2, y2)) → Calls Tryz.prog 19 #[v] W fun e w' => e = .returned (.string S1) ∧ Below W.heap.size W w') := fun W v hW hr => by rw [← hS1]; exact textR_any v _ W hr 3 rs1 (by decide) (tab_below (unhide HTB) hW)
  have HU1 : Hid (∀ W b, Below W1.heap.size W1 W → BRz W b 0 (pq (x1, y1) + pq (x2, y2)) → Calls Tryz.prog 20 #[.pointer (some ⟨b, 0, none⟩)] W fun e w' => e = .returned (.string S1) ∧ Below W.heap.size W w') := fun W b hW hr => by rw [← hS1]; exact refTextz_any b 0 3 _ W hr rs1 (by decide)
  clear hS1
  obtain ⟨S2, hS2⟩ : ∃ S : ByteArray, ⟨(qtext (pq (x1, y1) - pq (x2, y2))).toArray⟩ = S := ⟨_, rfl⟩
  have rs2 : RS (pq (x1, y1) - pq (x2, y2)) 3 := RS.sub3 qa1 qb1
  have HT2 : Hid (∀ W v, Below W1.heap.size W1 W → RatIs W v (pq (x1, y1) - pq (x2, y2)) → Calls Tryz.prog 19 #[v] W fun e w' => e = .returned (.string S2) ∧ Below W.heap.size W w') := fun W v hW hr => by rw [← hS2]; exact textR_any v _ W hr 3 rs2 (by decide) (tab_below (unhide HTB) hW)
  have HU2 : Hid (∀ W b, Below W1.heap.size W1 W → BRz W b 0 (pq (x1, y1) - pq (x2, y2)) → Calls Tryz.prog 20 #[.pointer (some ⟨b, 0, none⟩)] W fun e w' => e = .returned (.string S2) ∧ Below W.heap.size W w') := fun W b hW hr => by rw [← hS2]; exact refTextz_any b 0 3 _ W hr rs2 (by decide)
  clear hS2
  obtain ⟨S3, hS3⟩ : ∃ S : ByteArray, ⟨(qtext (pq (x1, y1) * pq (x2, y2))).toArray⟩ = S := ⟨_, rfl⟩
  have rs3 : RS (pq (x1, y1) * pq (x2, y2)) 3 := (qa1.mul qb1).mono (by decide)
  have HT3 : Hid (∀ W v, Below W1.heap.size W1 W → RatIs W v (pq (x1, y1) * pq (x2, y2)) → Calls Tryz.prog 19 #[v] W fun e w' => e = .returned (.string S3) ∧ Below W.heap.size W w') := fun W v hW hr => by rw [← hS3]; exact textR_any v _ W hr 3 rs3 (by decide) (tab_below (unhide HTB) hW)
  have HU3 : Hid (∀ W b, Below W1.heap.size W1 W → BRz W b 0 (pq (x1, y1) * pq (x2, y2)) → Calls Tryz.prog 20 #[.pointer (some ⟨b, 0, none⟩)] W fun e w' => e = .returned (.string S3) ∧ Below W.heap.size W w') := fun W b hW hr => by rw [← hS3]; exact refTextz_any b 0 3 _ W hr rs3 (by decide)
  clear hS3
  obtain ⟨sg1, hsg1⟩ : ∃ s, (pq (x1, y1)).num.sign = s := ⟨_, rfl⟩
  have HS1 : Hid (∀ W v, RatIs W v (pq (x1, y1)) → Calls Tryz.prog 29 #[v] W fun e w' => e = .returned (.int .i64 sg1) ∧ Below W.heap.size W w') := fun W v hr => by rw [← hsg1]; exact sign_any v _ W hr
  have HS2 : Hid (∀ W b, BRz W b 0 (pq (x1, y1)) → Calls Tryz.prog 14 #[.pointer (some ⟨b, 0, none⟩)] W fun e w' => e = .returned (.int .i64 sg1) ∧ Below W.heap.size W w') := fun W b hr => by
    rw [← hsg1]
    refine (signz_any b 0 _ W hr).mono ?_
    rintro e w' ⟨rfl, rfl⟩
    exact ⟨rfl, Below.refl _ _⟩
  obtain ⟨cm, hcm⟩ : ∃ c, Wd.sg ((pq (x1, y1)).num * (pq (x2, y2)).den) ((pq (x2, y2)).num * (pq (x1, y1)).den) = c := ⟨_, rfl⟩
  have HP1 : Hid (∀ W v u, RatIs W v (pq (x1, y1)) → RatIs W u (pq (x2, y2)) → Calls Tryz.prog 30 #[v, u] W fun e w' => e = .returned (.int .i64 cm) ∧ Below W.heap.size W w') := fun W v u hr hu => by
    rw [← hcm]
    exact cmpR_any v u _ _ W hr hu (sm_of qa1.1 (by decide)) (sm_of qb1.1 (by decide)) (sm_of qa1.2 (by decide)) (sm_of qb1.2 (by decide))
  have HP2 : Hid (∀ W b b', BRz W b 0 (pq (x1, y1)) → BRz W b' 0 (pq (x2, y2)) → Calls Tryz.prog 31 #[.pointer (some ⟨b, 0, none⟩), .pointer (some ⟨b', 0, none⟩)] W fun e w' => e = .returned (.int .i64 cm) ∧ Below W.heap.size W w') := fun W b b' hr hu => by
    rw [← hcm]
    exact rcmp_any b 0 b' 0 1 1 _ _ W hr hu qa1 qb1 (by decide)
  clear bA bB hx0 hx1 htab hg i1 i2 i3 i4 qa1 qb1 rs0 rs1 rs2 rs3 hsg1 hcm
  go_enter Tryz.func3, Tryz.ntmps3
  go_wp2_with fail
  clear hWa hW1 hg0 hg1
  refine wp_region_hold (fun w' : World => (w'.cell? ⟨g0, 0, none⟩ = some (.int .i64 x1) ∧ w'.cell? ⟨g0, 1, none⟩ = some (.int .i64 y1)) ∧ w'.cell? ⟨g1, 0, none⟩ = some (.int .i64 x2) ∧ w'.cell? ⟨g1, 1, none⟩ = some (.int .i64 y2)) (by kernel_rfl) ?_
  have bd0 : Below W1.heap.size W1 W1.drew := (Below.refl _ _).drew
  obtain ⟨Wx, hWx⟩ : ∃ W, W1.drew = W := ⟨_, rfl⟩
  rw [hWx] at bd0 ⊢
  have hC0 : (fun w' : World => (w'.cell? ⟨g0, 0, none⟩ = some (.int .i64 x1) ∧ w'.cell? ⟨g0, 1, none⟩ = some (.int .i64 y1)) ∧ w'.cell? ⟨g1, 0, none⟩ = some (.int .i64 x2) ∧ w'.cell? ⟨g1, 1, none⟩ = some (.int .i64 y2)) Wx := unhide HC1 _ bd0
  have BD0 := hide bd0
  refine wpHold_take (i := 0) (v := ?_) rfl (by kernel_rfl) (by kernel_rfl) (by kernel_rfl) (fun _ _ _ h => h) (Or.inl ⟨by rfl, ?_⟩) hC0 ?_
  rotate_left
  · intro w hSw; (try dsimp only at hSw); obtain ⟨⟨z0, z1⟩, z2, z3⟩ := hSw; go_simp; (try with_reducible rfl)
  (try simp only [List.getElem_toArray, List.getElem_cons_succ, List.getElem_cons_zero])
  (try simp only [Act.put, List.setIfInBounds_toArray, List.set_cons_zero, List.set_cons_succ])
  refine wpHold_take (i := 2) (v := ?_) rfl (by kernel_rfl) (by kernel_rfl) (by kernel_rfl) (fun _ _ _ h => h) (Or.inl ⟨by rfl, ?_⟩) hC0 ?_
  rotate_left
  · intro w hSw; (try dsimp only at hSw); obtain ⟨⟨z0, z1⟩, z2, z3⟩ := hSw; go_simp; (try with_reducible rfl)
  (try simp only [List.getElem_toArray, List.getElem_cons_succ, List.getElem_cons_zero])
  (try simp only [Act.put, List.setIfInBounds_toArray, List.set_cons_zero, List.set_cons_succ])
  refine wpHoldz_listed (n := 6) (L' := (fun s : Nat × Bool × Bool => #[true, decide (1 ≤ s.1), true, decide (2 ≤ s.1), s.2.1, s.2.2, false, false]) (0, false, false)) (by kernel_rfl) (by kernel_rfl) ?_
  refine wpHoldz_name (fun a0 ha0 => ?_)
  refine walk_any (fun s : Nat × Bool × Bool => #[true, decide (1 ≤ s.1), true, decide (2 ≤ s.1), s.2.1, s.2.2, false, false]) (fun s : Nat × Bool × Bool => 6 - s.1 - s.2.1.toNat - s.2.2.toNat) (fun s : Nat × Bool × Bool => decide (2 < s.1) || (decide (2 ≤ s.1) && s.2.1 && s.2.2)) nextSay (fun s na W => ∃ v17 v19 v5 v6, na = ((((a0.put (some 17) v17).put (some 19) v19).put (some 5) v5).put (some 6) v6) ∧ SayJ Wx (pq (x1, y1)) (pq (x2, y2)) s W v17 v19 v5 v6) ?_ ?_ ?_ ?_ 6 (0, false, false) rfl _ _ ⟨undef, undef, undef, undef, by subst ha0; rfl, Below.refl _ _, (fun h => absurd h (by decide)), (fun h => absurd h (by decide)), (fun h => by cases h), (fun h => by cases h), (fun h => by cases h), by decide⟩
  · clear ha0
    intro s hs
    exact not_of (checkSay (g := fun s => !(Region.ready _ _ ((fun s : Nat × Bool × Bool => #[true, decide (1 ≤ s.1), true, decide (2 ≤ s.1), s.2.1, s.2.2, false, false]) s)).isEmpty) (fin := (fun s : Nat × Bool × Bool => decide (2 < s.1) || (decide (2 ≤ s.1) && s.2.1 && s.2.2))) (fun s h => by simp [show 2 < s.1 by omega]) (by kernel_rfl) s hs)
  · clear ha0
    exact checkSay (fun s h => by simp [show 2 < s.1 by omega]) (by kernel_rfl)
  · rintro ⟨k, c0, c1⟩ i s' hn na wv ⟨v17, v19, v5, v6, rfl, J⟩
    subst ha0
    unfold nextSay at hn
    simp only at hn
    by_cases h : i = 4 ∧ c0 = false
    · rw [if_pos h] at hn
      obtain ⟨rfl, rfl⟩ := h
      obtain rfl := Option.some.inj hn
      refine wpOp_step rfl (fun K hK => ?_)
      (try simp only [Act.put, List.setIfInBounds_toArray, List.set_cons_zero, List.set_cons_succ] at hK ⊢)
      (try simp only [List.getElem_toArray, List.getElem_cons_succ, List.getElem_cons_zero])
      go_simp
      have hb := abelow wv (.cells #[.bool false, .slice none 0 0, .slice none 0 0] 27)
      have J' := J.keep hb
      exact hK _ _ ⟨unhide HC1 _ (bstep (unhide BD0) J'.bl), v17, v19, .pointer (some ⟨wv.heap.size, 0, none⟩), v6, rfl, J'.bl, J'.r1, J'.r2, fun _ => ⟨wv.heap.size, rfl, BoxIs.new (t := zTri) (rat_zero _), J.bl.size⟩, J'.a2, fun _ h2 e => by
        obtain ⟨b, e1, e2, e3⟩ := J.a2 h2
        rw [e1] at e
        injection e with e; injection e with e; injection e with e
        have := e2.lt; omega, J'.bd⟩
    rw [if_neg h] at hn
    clear h
    by_cases h : i = 5 ∧ c1 = false
    · rw [if_pos h] at hn
      obtain ⟨rfl, rfl⟩ := h
      obtain rfl := Option.some.inj hn
      refine wpOp_step rfl (fun K hK => ?_)
      (try simp only [Act.put, List.setIfInBounds_toArray, List.set_cons_zero, List.set_cons_succ] at hK ⊢)
      (try simp only [List.getElem_toArray, List.getElem_cons_succ, List.getElem_cons_zero])
      go_simp
      have hb := abelow wv (.cells #[.bool false, .slice none 0 0, .slice none 0 0] 27)
      have J' := J.keep hb
      exact hK _ _ ⟨unhide HC1 _ (bstep (unhide BD0) J'.bl), v17, v19, v5, .pointer (some ⟨wv.heap.size, 0, none⟩), rfl, J'.bl, J'.r1, J'.r2, J'.a1, fun _ => ⟨wv.heap.size, rfl, BoxIs.new (t := zTri) (rat_zero _), J.bl.size⟩, fun h1 _ e => by
        obtain ⟨b, e1, e2, e3⟩ := J.a1 h1
        rw [e1] at e
        injection e with e; injection e with e; injection e with e
        have := e2.lt; omega, J'.bd⟩
    rw [if_neg h] at hn
    clear h
    by_cases h : i = 1 ∧ k = 0
    · rw [if_pos h] at hn
      obtain ⟨rfl, rfl⟩ := h
      obtain rfl := Option.some.inj hn
      refine wpOp_step rfl (fun K hK => ?_)
      (try simp only [Act.put, List.setIfInBounds_toArray, List.set_cons_zero, List.set_cons_succ] at hK ⊢)
      (try simp only [List.getElem_toArray, List.getElem_cons_succ, List.getElem_cons_zero])
      go_simp
      refine (f_any x1 y1 (unhide HI1).1 (unhide HI1).2 (unhide HI2).1 (unhide HI2).2 wv).mono ?_
      rintro e wz ⟨v, rfl, hv, hb⟩
      have J' := J.keep hb
      exact hK _ _ ⟨unhide HC1 _ (bstep (unhide BD0) J'.bl), v, v19, v5, v6, rfl, J'.bl, fun _ => hv, (fun h => absurd h (by simp)), J'.a1, J'.a2, J'.ne, by simp⟩
    rw [if_neg h] at hn
    clear h
    by_cases h : i = 3 ∧ k = 1
    · rw [if_pos h] at hn
      obtain ⟨rfl, rfl⟩ := h
      obtain rfl := Option.some.inj hn
      refine wpOp_step rfl (fun K hK => ?_)
      (try simp only [Act.put, List.setIfInBounds_toArray, List.set_cons_zero, List.set_cons_succ] at hK ⊢)
      (try simp only [List.getElem_toArray, List.getElem_cons_succ, List.getElem_cons_zero])
      go_simp
      refine (f_any x2 y2 (unhide HI3).1 (unhide HI3).2 (unhide HI4).1 (unhide HI4).2 wv).mono ?_
      rintro e wz ⟨v, rfl, hv, hb⟩
      have J' := J.keep hb
      exact hK _ _ ⟨unhide HC1 _ (bstep (unhide BD0) J'.bl), v17, v, v5, v6, rfl, J'.bl, fun _ => J'.r1 (by simp), fun _ => hv, J'.a1, J'.a2, J'.ne, by simp⟩
    rw [if_neg h] at hn
    cases hn
  · rintro ⟨k, c0, c1⟩ hfin na wv ⟨v17, v19, v5, v6, rfl, J⟩
    subst ha0
    have hbd : k ≤ 2 := J.bd
    simp only [Bool.or_eq_true, Bool.and_eq_true, decide_eq_true_eq] at hfin
    obtain rfl : k = 2 := by omega
    obtain rfl : c0 = true := hfin.elim (fun h => absurd h (by simp)) (fun h => h.1.2)
    obtain rfl : c1 = true := hfin.elim (fun h => absurd h (by simp)) (fun h => h.2)
    obtain ⟨b5, rfl, B5, e5⟩ := J.a1 rfl
    obtain ⟨b6, rfl, B6, e6⟩ := J.a2 rfl
    have hne : b5 ≠ b6 := fun e => J.ne rfl rfl (by rw [e])
    obtain ⟨t1, rfl, q1⟩ := tri_of (J.r1 (by simp))
    obtain ⟨t2, rfl, q2⟩ := tri_of (J.r2 (by simp))
    have bl := J.bl
    simp only [Tri.val]
    (try simp only [Act.put, List.setIfInBounds_toArray, List.set_cons_zero, List.set_cons_succ])
    clear J hfin hbd hC0
    have ⟨l0, l1, l2⟩ := B5.free
    have ⟨k0, k1, k2⟩ := B5.cells _ (Below.refl _ _)
    have NB5 := B5.set q1
    have NB6 := B6.other B5 (Ne.symm hne) (.bool t1.s) (.slice t1.a1 t1.n1 t1.c1) (.slice t1.a2 t1.n2 t1.c2)
    have nq2 := q2.boxSet B5 (.bool t1.s) (.slice t1.a1 t1.n1 t1.c1) (.slice t1.a2 t1.n2 t1.c2)
    have bl2 : Below Wx.heap.size Wx (((wv.setCell ⟨b5, 0, none⟩ (.bool t1.s)).setCell ⟨b5, 1, none⟩ (.slice t1.a1 t1.n1 t1.c1)).setCell ⟨b5, 2, none⟩ (.slice t1.a2 t1.n2 t1.c2)) := ((bl.setCell (p := ⟨b5, 0, none⟩) e5 _).setCell (p := ⟨b5, 1, none⟩) e5 _).setCell (p := ⟨b5, 2, none⟩) e5 _
    have hC2 : (fun w' : World => (w'.cell? ⟨g0, 0, none⟩ = some (.int .i64 x1) ∧ w'.cell? ⟨g0, 1, none⟩ = some (.int .i64 y1)) ∧ w'.cell? ⟨g1, 0, none⟩ = some (.int .i64 x2) ∧ w'.cell? ⟨g1, 1, none⟩ = some (.int .i64 y2)) _ := unhide HC1 _ (bstep (unhide BD0) bl2)
    obtain ⟨Wy, hWy⟩ : ∃ W, ((wv.setCell ⟨b5, 0, none⟩ (.bool t1.s)).setCell ⟨b5, 1, none⟩ (.slice t1.a1 t1.n1 t1.c1)).setCell ⟨b5, 2, none⟩ (.slice t1.a2 t1.n2 t1.c2) = W := ⟨_, rfl⟩
    rw [hWy] at NB5 NB6 nq2 bl2 hC2
    refine wpHold_one (k := 6) (by kernel_rfl) rfl (fun K hK => ?_)
    (try simp only [List.getElem_toArray, List.getElem_cons_succ, List.getElem_cons_zero])
    go_simp
    refine hK.out _ _ hC2 ?_
    clear hK K
    (try simp only [Act.put, List.setIfInBounds_toArray, List.set_cons_zero, List.set_cons_succ])
    have ⟨m0, m1, m2⟩ := NB6.free
    have ⟨n0, n1, n2⟩ := NB6.cells _ (Below.refl _ _)
    have MB6 := NB6.set nq2
    have MB5 := NB5.other NB6 hne (.bool t2.s) (.slice t2.a1 t2.n1 t2.c1) (.slice t2.a2 t2.n2 t2.c2)
    have bl3 : Below Wx.heap.size Wx (((Wy.setCell ⟨b6, 0, none⟩ (.bool t2.s)).setCell ⟨b6, 1, none⟩ (.slice t2.a1 t2.n1 t2.c1)).setCell ⟨b6, 2, none⟩ (.slice t2.a2 t2.n2 t2.c2)) := ((bl2.setCell (p := ⟨b6, 0, none⟩) e6 _).setCell (p := ⟨b6, 1, none⟩) e6 _).setCell (p := ⟨b6, 2, none⟩) e6 _
    have hC3 : (fun w' : World => (w'.cell? ⟨g0, 0, none⟩ = some (.int .i64 x1) ∧ w'.cell? ⟨g0, 1, none⟩ = some (.int .i64 y1)) ∧ w'.cell? ⟨g1, 0, none⟩ = some (.int .i64 x2) ∧ w'.cell? ⟨g1, 1, none⟩ = some (.int .i64 y2)) _ := unhide HC1 _ (bstep (unhide BD0) bl3)
    obtain ⟨W2, hW2⟩ : ∃ W, ((Wy.setCell ⟨b6, 0, none⟩ (.bool t2.s)).setCell ⟨b6, 1, none⟩ (.slice t2.a1 t2.n1 t2.c1)).setCell ⟨b6, 2, none⟩ (.slice t2.a2 t2.n2 t2.c2) = W := ⟨_, rfl⟩
    rw [hW2] at MB5 MB6 bl3 hC3
    refine wpHold_one (k := 7) (by kernel_rfl) rfl (fun K hK => ?_)
    (try simp only [List.getElem_toArray, List.getElem_cons_succ, List.getElem_cons_zero])
    go_simp
    refine hK.out _ _ hC3 ?_
    clear hK K
    (try simp only [Act.put, List.setIfInBounds_toArray, List.set_cons_zero, List.set_cons_succ])
    refine wpHold_done (by kernel_rfl) ?_ _
    have HX5 := hide MB5
    have HX6 := hide MB6
    have HB2 := hide (bstep (unhide BD0) bl3)
    clear B5 B6 e5 e6 hne q1 q2 bl l0 l1 l2 k0 k1 k2 NB5 NB6 nq2 bl2 hC2 hWy m0 m1 m2 n0 n1 n2 MB5 MB6 bl3 hC3 hW2 hWx bd0
    have HC2 : Hid (∀ W, Below W2.heap.size W2 W → (fun w' : World => (w'.cell? ⟨g0, 0, none⟩ = some (.int .i64 x1) ∧ w'.cell? ⟨g0, 1, none⟩ = some (.int .i64 y1)) ∧ w'.cell? ⟨g1, 0, none⟩ = some (.int .i64 x2) ∧ w'.cell? ⟨g1, 1, none⟩ = some (.int .i64 y2)) W) := fun W hW => unhide HC1 W (bstep (unhide HB2) hW)
    go_wp2_with fail
    refine wp_region_hold (fun w' : World => (w'.cell? ⟨g0, 0, none⟩ = some (.int .i64 x1) ∧ w'.cell? ⟨g0, 1, none⟩ = some (.int .i64 y1)) ∧ w'.cell? ⟨g1, 0, none⟩ = some (.int .i64 x2) ∧ w'.cell? ⟨g1, 1, none⟩ = some (.int .i64 y2)) (by kernel_rfl) ?_
    have bd0 : Below W2.heap.size W2 W2.drew := (Below.refl _ _).drew
    have hC0 : (fun w' : World => (w'.cell? ⟨g0, 0, none⟩ = some (.int .i64 x1) ∧ w'.cell? ⟨g0, 1, none⟩ = some (.int .i64 y1)) ∧ w'.cell? ⟨g1, 0, none⟩ = some (.int .i64 x2) ∧ w'.cell? ⟨g1, 1, none⟩ = some (.int .i64 y2)) W2.drew := unhide HC2 _ bd0
    refine wpHold_take (i := 0) (v := ?_) rfl (by kernel_rfl) (by kernel_rfl) (by kernel_rfl) (fun _ _ _ h => h) (Or.inl ⟨by rfl, ?_⟩) hC0 ?_
    rotate_left
    · intro w hSw; (try dsimp only at hSw); obtain ⟨⟨z0, z1⟩, z2, z3⟩ := hSw; go_simp; (try with_reducible rfl)
    (try simp only [List.getElem_toArray, List.getElem_cons_succ, List.getElem_cons_zero])
    (try simp only [Act.put, List.setIfInBounds_toArray, List.set_cons_zero, List.set_cons_succ])
    refine wpHold_take (i := 2) (v := ?_) rfl (by kernel_rfl) (by kernel_rfl) (by kernel_rfl) (fun _ _ _ h => h) (Or.inl ⟨by rfl, ?_⟩) hC0 ?_
    rotate_left
    · intro w hSw; (try dsimp only at hSw); obtain ⟨⟨z0, z1⟩, z2, z3⟩ := hSw; go_simp; (try with_reducible rfl)
    (try simp only [List.getElem_toArray, List.getElem_cons_succ, List.getElem_cons_zero])
    (try simp only [Act.put, List.setIfInBounds_toArray, List.set_cons_zero, List.set_cons_succ])
    refine wpHold_one (k := 1) (by kernel_rfl) rfl (fun K hK => ?_)
    (try simp only [List.getElem_toArray, List.getElem_cons_succ, List.getElem_cons_zero])
    go_simp
    refine (refOf_any x1 y1 (unhide HI1) (unhide HI2) _).mono ?_
    rintro e w3 ⟨bx, rfl, -, hr3, hb3⟩
    have cc3 := bstep bd0 hb3
    have hC3 : (fun w' : World => (w'.cell? ⟨g0, 0, none⟩ = some (.int .i64 x1) ∧ w'.cell? ⟨g0, 1, none⟩ = some (.int .i64 y1)) ∧ w'.cell? ⟨g1, 0, none⟩ = some (.int .i64 x2) ∧ w'.cell? ⟨g1, 1, none⟩ = some (.int .i64 y2)) w3 := unhide HC2 _ cc3
    refine hK.out _ _ hC3 ?_
    clear hK K
    (try simp only [Act.put, List.setIfInBounds_toArray, List.set_cons_zero, List.set_cons_succ])
    refine wpHold_one (k := 3) (by kernel_rfl) rfl (fun K hK => ?_)
    (try simp only [List.getElem_toArray, List.getElem_cons_succ, List.getElem_cons_zero])
    go_simp
    refine (refOf_any x2 y2 (unhide HI3) (unhide HI4) _).mono ?_
    rintro e w4 ⟨by', rfl, -, hr4, hb4⟩
    have cc4 := bstep cc3 hb4
    have hC4 : (fun w' : World => (w'.cell? ⟨g0, 0, none⟩ = some (.int .i64 x1) ∧ w'.cell? ⟨g0, 1, none⟩ = some (.int .i64 y1)) ∧ w'.cell? ⟨g1, 0, none⟩ = some (.int .i64 x2) ∧ w'.cell? ⟨g1, 1, none⟩ = some (.int .i64 y2)) w4 := unhide HC2 _ cc4
    refine hK.out _ _ hC4 ?_
    clear hK K
    (try simp only [Act.put, List.setIfInBounds_toArray, List.set_cons_zero, List.set_cons_succ])
    refine wpHold_one (k := 4) (by kernel_rfl) rfl (fun K hK => ?_)
    (try simp only [List.getElem_toArray, List.getElem_cons_succ, List.getElem_cons_zero])
    go_simp
    refine hK.out _ _ hC4 ?_
    clear hK K
    (try simp only [Act.put, List.setIfInBounds_toArray, List.set_cons_zero, List.set_cons_succ])
    refine wpHold_one (k := 5) (by kernel_rfl) rfl (fun K hK => ?_)
    (try simp only [List.getElem_toArray, List.getElem_cons_succ, List.getElem_cons_zero])
    go_simp
    refine hK.out _ _ hC4 ?_
    clear hK K
    (try simp only [Act.put, List.setIfInBounds_toArray, List.set_cons_zero, List.set_cons_succ])
    refine wpHold_done (by kernel_rfl) ?_ _
    have HRA := hide (hr3.below hb4)
    have HRB := hide hr4
    have HB4 := hide (bstep (unhide HB2) cc4)
    have HX54 := hide ((unhide HX5).keep cc4)
    have HX64 := hide ((unhide HX6).keep cc4)
    clear hr3 hb3 cc3 hC3 hr4 hb4 cc4 hC4 bd0 hC0 HC2 HX5 HX6 HC1
    have HDS := hide (div_says _ _ (pq (x1, y1)) (pq (x2, y2)) w4 (unhide HX54).2 (unhide HX64).2 (unhide HQA) (unhide HQB))
    simp only [Tri.val] at HDS
    have ⟨p0, p1, p2⟩ := (unhide HX54).cells _ (Below.refl _ _)
    have ⟨r0, r1, r2⟩ := (unhide HX64).cells _ (Below.refl _ _)
    go_wp2_with fail
    clear p0 p1 p2 r0 r1 r2
    refine (unhide HDS).mono ?_
    rintro e w5 ⟨tq, er, rfl, hb5, hcase⟩
    have bA := abelow w5 (.cells #[.bool tq.s, .slice tq.a1 tq.n1 tq.c1, .slice tq.a2 tq.n2 tq.c2] 27)
    have HB6 := hide (bstep (bstep (unhide HB4) hb5) bA)
    have HX5 := hide (((unhide HX54).keep hb5).keep bA)
    have HX6 := hide (((unhide HX64).keep hb5).keep bA)
    have HRA6 := hide (((unhide HRA).below hb5).below bA)
    have HRB6 := hide (((unhide HRB).below hb5).below bA)
    have HCS := hide hcase
    have HBT := hide bA
    simp only [Tri.val]
    clear hb5 hcase HDS bA HX54 HX64 HRA HRB HB4
    obtain ⟨w6, hw6⟩ : ∃ W, w5.alloc (.cells #[.bool tq.s, .slice tq.a1 tq.n1 tq.c1, .slice tq.a2 tq.n2 tq.c2] 27) = W := ⟨_, rfl⟩
    obtain ⟨b9, hb9⟩ : ∃ b, w5.heap.size = b := ⟨_, rfl⟩
    rw [hw6] at HB6 HX5 HX6 HRA6 HRB6 HBT
    have HX9 : Hid (∀ Q, RatIs w5 tq.val Q → BoxIs w6 b9 tq Q) := fun Q hQ => by rw [← hw6, ← hb9]; exact BoxIs.new hQ
    have HSY := hide (signz_any by' 0 (pq (x2, y2)) w6 (unhide HRB6))
    obtain ⟨sg, hsg⟩ : ∃ s, (pq (x2, y2)).num.sign = s := ⟨_, rfl⟩
    rw [hsg] at HSY
    have HSG := hide hsg
    clear hsg
    go_wp2_with fail
    clear hw6 hb9
    refine (unhide HSY).mono ?_
    rintro e w7 ⟨rfl, hw7⟩
    have hw7 := hw7.symm
    subst hw7
    clear HSY
    have hsz := sign_zero (x := (pq (x2, y2)).num)
    rw [unhide HSG] at hsz
    by_cases hz : (pq (x2, y2)).num = 0
    case' pos =>
      rw [decide_eq_true hz] at hsz
      have hqz : pq (x2, y2) = 0 := Rat.num_eq_zero.1 hz
      obtain ⟨rfl, hrq⟩ : er = .iface 35 (.int .i64 11) ∧ RatIs w5 tq.val 0 := by
        rcases unhide HCS with ⟨h, _⟩ | ⟨_, h2, h3⟩
        · exact absurd hz h
        · exact ⟨h2, h3⟩
      have HX9' := hide (unhide HX9 _ hrq)
      have HDI : Hid (∀ W, Below w6.heap.size w6 W → Calls Tryz.prog 28 #[.pointer (some ⟨bx, 0, none⟩), .pointer (some ⟨by', 0, none⟩)] W (NewsZ W (pq (x1, y1) / pq (x2, y2)))) := fun W hW => refDivz_any bx by' _ _ W ((unhide HRB6).below hW) hqz
      have HON : Hid (∀ W bw, Below w6.heap.size w6 W → BRz W bw 0 (pq (x1, y1) / pq (x2, y2)) → Calls Tryz.prog 27 #[.agg #[.bool tq.s, .slice tq.a1 tq.n1 tq.c1, .slice tq.a2 tq.n2 tq.c2], .iface 35 (.int .i64 11), .pointer (some ⟨bw, 0, none⟩), .int .i64 11] W fun e w' => e = .returned (.bool true) ∧ Below W.heap.size W w') := fun W bw hW _ => one_err _ bw 11 (by decide) W ((unhide HX9').2.below hW) (tab_below (unhide HTB) (bstep (unhide HB6) hW)) ((unhide HGT).below (bstep (unhide HB6) hW))
      clear hz hqz hrq HX9 HCS
    case' neg =>
      rw [decide_eq_false hz] at hsz
      obtain ⟨rfl, hrq⟩ : er = .nilIface ∧ RatIs w5 tq.val (pq (x1, y1) / pq (x2, y2)) := by
        rcases unhide HCS with ⟨_, h2, h3⟩ | ⟨h, _⟩
        · exact ⟨h2, h3⟩
        · exact absurd h hz
      have HX9' := hide (unhide HX9 _ hrq)
      have HRD : Hid (RS (pq (x1, y1) / pq (x2, y2)) (1 + 1)) := by
        show RS _ _
        rw [Rat.div_def]
        exact (unhide HQA).mul ((unhide HQB).inv hz)
      have HDI : Hid (∀ W, Below w6.heap.size w6 W → Calls Tryz.prog 28 #[.pointer (some ⟨bx, 0, none⟩), .pointer (some ⟨by', 0, none⟩)] W (NewsZ W (pq (x1, y1) / pq (x2, y2)))) := fun W hW => refQuot_any bx by' 1 1 _ _ W ((unhide HRA6).below hW) ((unhide HRB6).below hW) (unhide HQA) (unhide HQB) (by decide) hz
      have HON : Hid (∀ W bw, Below w6.heap.size w6 W → BRz W bw 0 (pq (x1, y1) / pq (x2, y2)) → Calls Tryz.prog 27 #[.agg #[.bool tq.s, .slice tq.a1 tq.n1 tq.c1, .slice tq.a2 tq.n2 tq.c2], .nilIface, .pointer (some ⟨bw, 0, none⟩), .int .i64 0] W fun e w' => e = .returned (.bool true) ∧ Below W.heap.size W w') := fun W bw hW hr => one_ok _ _ bw (1 + 1) W ((unhide HX9').2.below hW) (unhide HRD) (by decide) (tab_below (unhide HTB) (bstep (unhide HB6) hW)) hr
      clear hz hrq HX9 HCS HRD
    all_goals
      have HFL := hide (floor_small _ (pq (x1, y1)) w6 (unhide HX5).2 (unhide HSM) (unhide HP8) (unhide HDN))
      simp only [Tri.val] at HFL
      have ⟨p0, p1, p2⟩ := (unhide HX5).cells _ (Below.refl _ _)
      obtain ⟨z, hz⟩ : ∃ z, (pq (x1, y1)).num / ((pq (x1, y1)).den : Int) = z := ⟨_, rfl⟩
      rw [hz] at HFL
      have HZ := hide hz
      obtain ⟨fn, hfn⟩ : ∃ f, (fits z).1 = f := ⟨_, rfl⟩
      obtain ⟨fb, hfb⟩ : ∃ f, (fits z).2 = f := ⟨_, rfl⟩
      rw [hfn, hfb] at HFL
      have HFN := hide (And.intro hfn hfb)
      clear hz hfn hfb
      go_wp2_with fail
      clear p0 p1 p2
      refine (unhide HFL).mono ?_
      rintro e w8 ⟨rfl, hb8⟩
      have HB8 := hide hb8
      have HRF := hide (refFloor_any bx (pq (x1, y1)) w8 ((unhide HRA6).below hb8) (unhide HQA))
      rw [unhide HZ] at HRF
      clear hb8 HFL
      go_wp2_with fail
      refine (unhide HRF).mono ?_
      rintro e w9 ⟨gf, rfl, hi9, hb9⟩
      have HB9 := hide (bstep (unhide HB8) hb9)
      have HI9 := hide hi9
      have hzb : -9223372036854775808 ≤ z ∧ z ≤ 9223372036854775808 := by rw [← unhide HZ]; exact floor_bd (pq (x1, y1)).den_pos (unhide HPB)
      have HIS := hide (isInt64_any gf 0 z w9 hi9 hzb.1 hzb.2)
      have HZB := hide hzb
      clear hi9 hb9 HRF hzb
      go_wp2_with fail
      refine (unhide HIS).mono ?_
      rintro e w10 ⟨rfl, hw10⟩
      have hw10 := hw10.symm
      subst hw10
      clear HIS
      by_cases hin : z ≤ 9223372036854775807
      case' pos =>
        have hfit : fn = z ∧ fb = true := by
          have h := unhide HFN
          unfold fits at h
          rw [if_pos ⟨(unhide HZB).1, hin⟩] at h
          exact ⟨h.1.symm, h.2.symm⟩
        obtain ⟨rfl, rfl⟩ := hfit
        rw [decide_eq_true hin]
        have HI64 := hide (int64_any gf 0 fn w9 (unhide HI9) (unhide HZB).1 hin)
        have ezz : (fn != fn) = false := by simp
        clear hin
        go_wp2_with fail
        refine (unhide HI64).mono ?_
        rintro e w11 ⟨rfl, hw11⟩
        have hw11 := hw11.symm
        subst hw11
        clear HI64
        go_wp2_with fail
      case' neg =>
        have hfit : fn = 0 ∧ fb = false := by
          have h := unhide HFN
          unfold fits at h
          rw [if_neg (by omega)] at h
          exact ⟨h.1.symm, h.2.symm⟩
        obtain ⟨rfl, rfl⟩ := hfit
        rw [decide_eq_false hin]
        clear hin
        go_wp2_with fail
      all_goals
        have HC12 : Hid (∀ W, Below w9.heap.size w9 W → (fun w' : World => (w'.cell? ⟨b5, 0, none⟩ = some (.bool t1.s) ∧ w'.cell? ⟨b5, 1, none⟩ = some (.slice t1.a1 t1.n1 t1.c1) ∧ w'.cell? ⟨b5, 2, none⟩ = some (.slice t1.a2 t1.n2 t1.c2)) ∧ (w'.cell? ⟨b6, 0, none⟩ = some (.bool t2.s) ∧ w'.cell? ⟨b6, 1, none⟩ = some (.slice t2.a1 t2.n1 t2.c1) ∧ w'.cell? ⟨b6, 2, none⟩ = some (.slice t2.a2 t2.n2 t2.c2)) ∧ (w'.cell? ⟨b9, 0, none⟩ = some (.bool tq.s) ∧ w'.cell? ⟨b9, 1, none⟩ = some (.slice tq.a1 tq.n1 tq.c1) ∧ w'.cell? ⟨b9, 2, none⟩ = some (.slice tq.a2 tq.n2 tq.c2))) W) := fun W hW => ⟨(unhide HX5).cells W (bstep (unhide HB9) hW), (unhide HX6).cells W (bstep (unhide HB9) hW), (unhide HX9').cells W (bstep (unhide HB9) hW)⟩
        refine wp_region_hold (fun w' : World => (w'.cell? ⟨b5, 0, none⟩ = some (.bool t1.s) ∧ w'.cell? ⟨b5, 1, none⟩ = some (.slice t1.a1 t1.n1 t1.c1) ∧ w'.cell? ⟨b5, 2, none⟩ = some (.slice t1.a2 t1.n2 t1.c2)) ∧ (w'.cell? ⟨b6, 0, none⟩ = some (.bool t2.s) ∧ w'.cell? ⟨b6, 1, none⟩ = some (.slice t2.a1 t2.n1 t2.c1) ∧ w'.cell? ⟨b6, 2, none⟩ = some (.slice t2.a2 t2.n2 t2.c2)) ∧ (w'.cell? ⟨b9, 0, none⟩ = some (.bool tq.s) ∧ w'.cell? ⟨b9, 1, none⟩ = some (.slice tq.a1 tq.n1 tq.c1) ∧ w'.cell? ⟨b9, 2, none⟩ = some (.slice tq.a2 tq.n2 tq.c2))) (by kernel_rfl) ?_
        have bd0 : Below w9.heap.size w9 w9.drew := (Below.refl _ _).drew
        have hC0 : (fun w' : World => (w'.cell? ⟨b5, 0, none⟩ = some (.bool t1.s) ∧ w'.cell? ⟨b5, 1, none⟩ = some (.slice t1.a1 t1.n1 t1.c1) ∧ w'.cell? ⟨b5, 2, none⟩ = some (.slice t1.a2 t1.n2 t1.c2)) ∧ (w'.cell? ⟨b6, 0, none⟩ = some (.bool t2.s) ∧ w'.cell? ⟨b6, 1, none⟩ = some (.slice t2.a1 t2.n1 t2.c1) ∧ w'.cell? ⟨b6, 2, none⟩ = some (.slice t2.a2 t2.n2 t2.c2)) ∧ (w'.cell? ⟨b9, 0, none⟩ = some (.bool tq.s) ∧ w'.cell? ⟨b9, 1, none⟩ = some (.slice tq.a1 tq.n1 tq.c1) ∧ w'.cell? ⟨b9, 2, none⟩ = some (.slice tq.a2 tq.n2 tq.c2))) w9.drew := unhide HC12 _ bd0
        refine wpHold_take (i := 0) (v := ?_) rfl (by kernel_rfl) (by kernel_rfl) (by kernel_rfl) (fun _ _ _ h => h) (Or.inl ⟨by rfl, ?_⟩) hC0 ?_
        rotate_left
        · intro w hSw; (try dsimp only at hSw); obtain ⟨⟨z0, z1, z2⟩, ⟨z3, z4, z5⟩, z6, z7, z8⟩ := hSw; go_simp; (try with_reducible rfl)
        (try simp only [List.getElem_toArray, List.getElem_cons_succ, List.getElem_cons_zero])
        (try simp only [Act.put, List.setIfInBounds_toArray, List.set_cons_zero, List.set_cons_succ])
        refine wpHold_take (i := 2) (v := ?_) rfl (by kernel_rfl) (by kernel_rfl) (by kernel_rfl) (fun _ _ _ h => h) (Or.inl ⟨by rfl, ?_⟩) hC0 ?_
        rotate_left
        · intro w hSw; clear hSw; go_simp; (try with_reducible rfl)
        (try simp only [List.getElem_toArray, List.getElem_cons_succ, List.getElem_cons_zero])
        (try simp only [Act.put, List.setIfInBounds_toArray, List.set_cons_zero, List.set_cons_succ])
        refine wpHold_one (k := 1) (by kernel_rfl) rfl (fun K hK => ?_)
        (try simp only [List.getElem_toArray, List.getElem_cons_succ, List.getElem_cons_zero])
        go_simp
        refine (unhide HT0 _ _ (bstep (unhide HB6) (bstep (unhide HB9) bd0)) ((unhide HX5).2.below (bstep (unhide HB9) bd0))).mono ?_
        rintro e xw1 ⟨rfl, hb1⟩
        have cc1 := bstep bd0 hb1
        have hC1 := unhide HC12 _ cc1
        refine hK.out _ _ hC1 ?_
        clear hK K
        (try simp only [Act.put, List.setIfInBounds_toArray, List.set_cons_zero, List.set_cons_succ])
        refine wpHold_one (k := 3) (by kernel_rfl) rfl (fun K hK => ?_)
        (try simp only [List.getElem_toArray, List.getElem_cons_succ, List.getElem_cons_zero])
        go_simp
        refine (unhide HU0 _ _ (bstep (unhide HB6) (bstep (unhide HB9) cc1)) ((unhide HRA6).below (bstep (unhide HB9) cc1))).mono ?_
        rintro e xw2 ⟨rfl, hb2⟩
        have cc2 := bstep cc1 hb2
        have hC2 := unhide HC12 _ cc2
        refine hK.out _ _ hC2 ?_
        clear hK K
        (try simp only [Act.put, List.setIfInBounds_toArray, List.set_cons_zero, List.set_cons_succ])
        refine wpHold_take (i := 4) (v := ?_) rfl (by kernel_rfl) (by kernel_rfl) (by kernel_rfl) (fun _ _ _ h => h) (Or.inl ⟨by rfl, ?_⟩) hC2 ?_
        rotate_left
        · intro w hSw; clear hSw; go_simp; (try with_reducible rfl)
        (try simp only [List.getElem_toArray, List.getElem_cons_succ, List.getElem_cons_zero])
        (try simp only [Act.put, List.setIfInBounds_toArray, List.set_cons_zero, List.set_cons_succ])
        refine wpHold_take (i := 5) (v := ?_) rfl (by kernel_rfl) (by kernel_rfl) (by kernel_rfl) (fun _ _ _ h => h) (Or.inl ⟨by rfl, ?_⟩) hC2 ?_
        rotate_left
        · intro w hSw; clear hSw; go_simp; (try with_reducible rfl)
        (try simp only [List.getElem_toArray, List.getElem_cons_succ, List.getElem_cons_zero])
        (try simp only [Act.put, List.setIfInBounds_toArray, List.set_cons_zero, List.set_cons_succ])
        refine wpHold_take (i := 6) (v := ?_) rfl (by kernel_rfl) (by kernel_rfl) (by kernel_rfl) (fun _ _ _ h => h) (Or.inl ⟨by rfl, ?_⟩) hC2 ?_
        rotate_left
        · intro w hSw; (try dsimp only at hSw); obtain ⟨⟨z0, z1, z2⟩, ⟨z3, z4, z5⟩, z6, z7, z8⟩ := hSw; go_simp; (try with_reducible rfl)
        (try simp only [List.getElem_toArray, List.getElem_cons_succ, List.getElem_cons_zero])
        (try simp only [Act.put, List.setIfInBounds_toArray, List.set_cons_zero, List.set_cons_succ])
        refine wpHold_take (i := 7) (v := ?_) rfl (by kernel_rfl) (by kernel_rfl) (by kernel_rfl) (fun _ _ _ h => h) (Or.inl ⟨by rfl, ?_⟩) hC2 ?_
        rotate_left
        · intro w hSw; (try dsimp only at hSw); obtain ⟨⟨z0, z1, z2⟩, ⟨z3, z4, z5⟩, z6, z7, z8⟩ := hSw; go_simp; (try with_reducible rfl)
        (try simp only [List.getElem_toArray, List.getElem_cons_succ, List.getElem_cons_zero])
        (try simp only [Act.put, List.setIfInBounds_toArray, List.set_cons_zero, List.set_cons_succ])
        refine wpHold_take (i := 10) (v := ?_) rfl (by kernel_rfl) (by kernel_rfl) (by kernel_rfl) (fun _ _ _ h => h) (Or.inl ⟨by rfl, ?_⟩) hC2 ?_
        rotate_left
        · intro w hSw; clear hSw; go_simp; (try with_reducible rfl)
        (try simp only [List.getElem_toArray, List.getElem_cons_succ, List.getElem_cons_zero])
        (try simp only [Act.put, List.setIfInBounds_toArray, List.set_cons_zero, List.set_cons_succ])
        refine wpHold_take (i := 11) (v := ?_) rfl (by kernel_rfl) (by kernel_rfl) (by kernel_rfl) (fun _ _ _ h => h) (Or.inl ⟨by rfl, ?_⟩) hC2 ?_
        rotate_left
        · intro w hSw; clear hSw; go_simp; (try with_reducible rfl)
        (try simp only [List.getElem_toArray, List.getElem_cons_succ, List.getElem_cons_zero])
        (try simp only [Act.put, List.setIfInBounds_toArray, List.set_cons_zero, List.set_cons_succ])
        refine wpHold_one (k := 8) (by kernel_rfl) rfl (fun K hK => ?_)
        (try simp only [List.getElem_toArray, List.getElem_cons_succ, List.getElem_cons_zero])
        go_simp
        refine (addR_any _ _ (pq (x1, y1)) (pq (x2, y2)) _ ((unhide HX5).2.below (bstep (unhide HB9) cc2)) ((unhide HX6).2.below (bstep (unhide HB9) cc2)) 1 (unhide HQA) (unhide HQB) (by decide)).mono ?_
        rintro e xw3 ⟨xv3, rfl, hv3, hb3⟩
        have cc3 := bstep cc2 hb3
        have hC3 := unhide HC12 _ cc3
        refine hK.out _ _ hC3 ?_
        clear hK K
        (try simp only [Act.put, List.setIfInBounds_toArray, List.set_cons_zero, List.set_cons_succ])
        refine wpHold_one (k := 9) (by kernel_rfl) rfl (fun K hK => ?_)
        (try simp only [List.getElem_toArray, List.getElem_cons_succ, List.getElem_cons_zero])
        go_simp
        refine (unhide HT1 _ _ (bstep (unhide HB6) (bstep (unhide HB9) cc3)) hv3).mono ?_
        rintro e xw4 ⟨rfl, hb4⟩
        have cc4 := bstep cc3 hb4
        have hC4 := unhide HC12 _ cc4
        refine hK.out _ _ hC4 ?_
        clear hK K
        (try simp only [Act.put, List.setIfInBounds_toArray, List.set_cons_zero, List.set_cons_succ])
        refine wpHold_one (k := 12) (by kernel_rfl) rfl (fun K hK => ?_)
        (try simp only [List.getElem_toArray, List.getElem_cons_succ, List.getElem_cons_zero])
        go_simp
        refine (refAdd_any bx by' 1 1 _ _ _ ((unhide HRA6).below (bstep (unhide HB9) cc4)) ((unhide HRB6).below (bstep (unhide HB9) cc4)) (unhide HQA) (unhide HQB) (by decide)).mono ?_
        rintro e xw5 ⟨xb5, rfl, -, hv5, hb5⟩
        have cc5 := bstep cc4 hb5
        have hC5 := unhide HC12 _ cc5
        refine hK.out _ _ hC5 ?_
        clear hK K
        (try simp only [Act.put, List.setIfInBounds_toArray, List.set_cons_zero, List.set_cons_succ])
        refine wpHold_one (k := 13) (by kernel_rfl) rfl (fun K hK => ?_)
        (try simp only [List.getElem_toArray, List.getElem_cons_succ, List.getElem_cons_zero])
        go_simp
        refine (unhide HU1 _ _ (bstep (unhide HB6) (bstep (unhide HB9) cc5)) hv5).mono ?_
        rintro e xw6 ⟨rfl, hb6⟩
        have cc6 := bstep cc5 hb6
        have hC6 := unhide HC12 _ cc6
        refine hK.out _ _ hC6 ?_
        clear hK K
        (try simp only [Act.put, List.setIfInBounds_toArray, List.set_cons_zero, List.set_cons_succ])
        refine wpHold_take (i := 14) (v := ?_) rfl (by kernel_rfl) (by kernel_rfl) (by kernel_rfl) (fun _ _ _ h => h) (Or.inl ⟨by rfl, ?_⟩) hC6 ?_
        rotate_left
        · intro w hSw; clear hSw; go_simp; (try with_reducible rfl)
        (try simp only [List.getElem_toArray, List.getElem_cons_succ, List.getElem_cons_zero])
        (try simp only [Act.put, List.setIfInBounds_toArray, List.set_cons_zero, List.set_cons_succ])
        refine wpHold_take (i := 15) (v := ?_) rfl (by kernel_rfl) (by kernel_rfl) (by kernel_rfl) (fun _ _ _ h => h) (Or.inl ⟨by rfl, ?_⟩) hC6 ?_
        rotate_left
        · intro w hSw; clear hSw; go_simp; (try with_reducible rfl)
        (try simp only [List.getElem_toArray, List.getElem_cons_succ, List.getElem_cons_zero])
        (try simp only [Act.put, List.setIfInBounds_toArray, List.set_cons_zero, List.set_cons_succ])
        refine wpHold_take (i := 16) (v := ?_) rfl (by kernel_rfl) (by kernel_rfl) (by kernel_rfl) (fun _ _ _ h => h) (Or.inl ⟨by rfl, ?_⟩) hC6 ?_
        rotate_left
        · intro w hSw; clear hSw; go_simp; (try with_reducible rfl)
        (try simp only [List.getElem_toArray, List.getElem_cons_succ, List.getElem_cons_zero])
        (try simp only [Act.put, List.setIfInBounds_toArray, List.set_cons_zero, List.set_cons_succ])
        refine wpHold_take (i := 17) (v := ?_) rfl (by kernel_rfl) (by kernel_rfl) (by kernel_rfl) (fun _ _ _ h => h) (Or.inl ⟨by rfl, ?_⟩) hC6 ?_
        rotate_left
        · intro w hSw; (try dsimp only at hSw); obtain ⟨⟨z0, z1, z2⟩, ⟨z3, z4, z5⟩, z6, z7, z8⟩ := hSw; go_simp; (try with_reducible rfl)
        (try simp only [List.getElem_toArray, List.getElem_cons_succ, List.getElem_cons_zero])
        (try simp only [Act.put, List.setIfInBounds_toArray, List.set_cons_zero, List.set_cons_succ])
        refine wpHold_take (i := 18) (v := ?_) rfl (by kernel_rfl) (by kernel_rfl) (by kernel_rfl) (fun _ _ _ h => h) (Or.inl ⟨by rfl, ?_⟩) hC6 ?_
        rotate_left
        · intro w hSw; (try dsimp only at hSw); obtain ⟨⟨z0, z1, z2⟩, ⟨z3, z4, z5⟩, z6, z7, z8⟩ := hSw; go_simp; (try with_reducible rfl)
        (try simp only [List.getElem_toArray, List.getElem_cons_succ, List.getElem_cons_zero])
        (try simp only [Act.put, List.setIfInBounds_toArray, List.set_cons_zero, List.set_cons_succ])
        refine wpHold_take (i := 21) (v := ?_) rfl (by kernel_rfl) (by kernel_rfl) (by kernel_rfl) (fun _ _ _ h => h) (Or.inl ⟨by rfl, ?_⟩) hC6 ?_
        rotate_left
        · intro w hSw; clear hSw; go_simp; (try with_reducible rfl)
        (try simp only [List.getElem_toArray, List.getElem_cons_succ, List.getElem_cons_zero])
        (try simp only [Act.put, List.setIfInBounds_toArray, List.set_cons_zero, List.set_cons_succ])
        refine wpHold_take (i := 22) (v := ?_) rfl (by kernel_rfl) (by kernel_rfl) (by kernel_rfl) (fun _ _ _ h => h) (Or.inl ⟨by rfl, ?_⟩) hC6 ?_
        rotate_left
        · intro w hSw; clear hSw; go_simp; (try with_reducible rfl)
        (try simp only [List.getElem_toArray, List.getElem_cons_succ, List.getElem_cons_zero])
        (try simp only [Act.put, List.setIfInBounds_toArray, List.set_cons_zero, List.set_cons_succ])
        refine wpHold_one (k := 19) (by kernel_rfl) rfl (fun K hK => ?_)
        (try simp only [List.getElem_toArray, List.getElem_cons_succ, List.getElem_cons_zero])
        go_simp
        refine (subR_any _ _ (pq (x1, y1)) (pq (x2, y2)) _ ((unhide HX5).2.below (bstep (unhide HB9) cc6)) ((unhide HX6).2.below (bstep (unhide HB9) cc6)) 1 (unhide HQA) (unhide HQB) (by decide)).mono ?_
        rintro e xw7 ⟨xv7, rfl, hv7, hb7⟩
        have cc7 := bstep cc6 hb7
        have hC7 := unhide HC12 _ cc7
        refine hK.out _ _ hC7 ?_
        clear hK K
        (try simp only [Act.put, List.setIfInBounds_toArray, List.set_cons_zero, List.set_cons_succ])
        refine wpHold_one (k := 20) (by kernel_rfl) rfl (fun K hK => ?_)
        (try simp only [List.getElem_toArray, List.getElem_cons_succ, List.getElem_cons_zero])
        go_simp
        refine (unhide HT2 _ _ (bstep (unhide HB6) (bstep (unhide HB9) cc7)) hv7).mono ?_
        rintro e xw8 ⟨rfl, hb8⟩
        have cc8 := bstep cc7 hb8
        have hC8 := unhide HC12 _ cc8
        refine hK.out _ _ hC8 ?_
        clear hK K
        (try simp only [Act.put, List.setIfInBounds_toArray, List.set_cons_zero, List.set_cons_succ])
        refine wpHold_one (k := 23) (by kernel_rfl) rfl (fun K hK => ?_)
        (try simp only [List.getElem_toArray, List.getElem_cons_succ, List.getElem_cons_zero])
        go_simp
        refine (refSub_any bx by' 1 1 _ _ _ ((unhide HRA6).below (bstep (unhide HB9) cc8)) ((unhide HRB6).below (bstep (unhide HB9) cc8)) (unhide HQA) (unhide HQB) (by decide)).mono ?_
        rintro e xw9 ⟨xb9, rfl, -, hv9, hb9⟩
        have cc9 := bstep cc8 hb9
        have hC9 := unhide HC12 _ cc9
        refine hK.out _ _ hC9 ?_
        clear hK K
        (try simp only [Act.put, List.setIfInBounds_toArray, List.set_cons_zero, List.set_cons_succ])
        refine wpHold_one (k := 24) (by kernel_rfl) rfl (fun K hK => ?_)
        (try simp only [List.getElem_toArray, List.getElem_cons_succ, List.getElem_cons_zero])
        go_simp
        refine (unhide HU2 _ _ (bstep (unhide HB6) (bstep (unhide HB9) cc9)) hv9).mono ?_
        rintro e xw10 ⟨rfl, hb10⟩
        have cc10 := bstep cc9 hb10
        have hC10 := unhide HC12 _ cc10
        refine hK.out _ _ hC10 ?_
        clear hK K
        (try simp only [Act.put, List.setIfInBounds_toArray, List.set_cons_zero, List.set_cons_succ])
        refine wpHold_take (i := 25) (v := ?_) rfl (by kernel_rfl) (by kernel_rfl) (by kernel_rfl) (fun _ _ _ h => h) (Or.inl ⟨by rfl, ?_⟩) hC10 ?_
        rotate_left
        · intro w hSw; clear hSw; go_simp; (try with_reducible rfl)
        (try simp only [List.getElem_toArray, List.getElem_cons_succ, List.getElem_cons_zero])
        (try simp only [Act.put, List.setIfInBounds_toArray, List.set_cons_zero, List.set_cons_succ])
        refine wpHold_take (i := 26) (v := ?_) rfl (by kernel_rfl) (by kernel_rfl) (by kernel_rfl) (fun _ _ _ h => h) (Or.inl ⟨by rfl, ?_⟩) hC10 ?_
        rotate_left
        · intro w hSw; clear hSw; go_simp; (try with_reducible rfl)
        (try simp only [List.getElem_toArray, List.getElem_cons_succ, List.getElem_cons_zero])
        (try simp only [Act.put, List.setIfInBounds_toArray, List.set_cons_zero, List.set_cons_succ])
        refine wpHold_take (i := 27) (v := ?_) rfl (by kernel_rfl) (by kernel_rfl) (by kernel_rfl) (fun _ _ _ h => h) (Or.inl ⟨by rfl, ?_⟩) hC10 ?_
        rotate_left
        · intro w hSw; clear hSw; go_simp; (try with_reducible rfl)
        (try simp only [List.getElem_toArray, List.getElem_cons_succ, List.getElem_cons_zero])
        (try simp only [Act.put, List.setIfInBounds_toArray, List.set_cons_zero, List.set_cons_succ])
        refine wpHold_take (i := 28) (v := ?_) rfl (by kernel_rfl) (by kernel_rfl) (by kernel_rfl) (fun _ _ _ h => h) (Or.inl ⟨by rfl, ?_⟩) hC10 ?_
        rotate_left
        · intro w hSw; (try dsimp only at hSw); obtain ⟨⟨z0, z1, z2⟩, ⟨z3, z4, z5⟩, z6, z7, z8⟩ := hSw; go_simp; (try with_reducible rfl)
        (try simp only [List.getElem_toArray, List.getElem_cons_succ, List.getElem_cons_zero])
        (try simp only [Act.put, List.setIfInBounds_toArray, List.set_cons_zero, List.set_cons_succ])
        refine wpHold_take (i := 29) (v := ?_) rfl (by kernel_rfl) (by kernel_rfl) (by kernel_rfl) (fun _ _ _ h => h) (Or.inl ⟨by rfl, ?_⟩) hC10 ?_
        rotate_left
        · intro w hSw; (try dsimp only at hSw); obtain ⟨⟨z0, z1, z2⟩, ⟨z3, z4, z5⟩, z6, z7, z8⟩ := hSw; go_simp; (try with_reducible rfl)
        (try simp only [List.getElem_toArray, List.getElem_cons_succ, List.getElem_cons_zero])
        (try simp only [Act.put, List.setIfInBounds_toArray, List.set_cons_zero, List.set_cons_succ])
        refine wpHold_take (i := 32) (v := ?_) rfl (by kernel_rfl) (by kernel_rfl) (by kernel_rfl) (fun _ _ _ h => h) (Or.inl ⟨by rfl, ?_⟩) hC10 ?_
        rotate_left
        · intro w hSw; clear hSw; go_simp; (try with_reducible rfl)
        (try simp only [List.getElem_toArray, List.getElem_cons_succ, List.getElem_cons_zero])
        (try simp only [Act.put, List.setIfInBounds_toArray, List.set_cons_zero, List.set_cons_succ])
        refine wpHold_take (i := 33) (v := ?_) rfl (by kernel_rfl) (by kernel_rfl) (by kernel_rfl) (fun _ _ _ h => h) (Or.inl ⟨by rfl, ?_⟩) hC10 ?_
        rotate_left
        · intro w hSw; clear hSw; go_simp; (try with_reducible rfl)
        (try simp only [List.getElem_toArray, List.getElem_cons_succ, List.getElem_cons_zero])
        (try simp only [Act.put, List.setIfInBounds_toArray, List.set_cons_zero, List.set_cons_succ])
        refine wpHold_one (k := 30) (by kernel_rfl) rfl (fun K hK => ?_)
        (try simp only [List.getElem_toArray, List.getElem_cons_succ, List.getElem_cons_zero])
        go_simp
        refine (mulR_any _ _ (pq (x1, y1)) (pq (x2, y2)) _ ((unhide HX5).2.below (bstep (unhide HB9) cc10)) ((unhide HX6).2.below (bstep (unhide HB9) cc10)) 1 (unhide HQA) (unhide HQB) (by decide)).mono ?_
        rintro e xw11 ⟨xv11, rfl, hv11, hb11⟩
        have cc11 := bstep cc10 hb11
        have hC11 := unhide HC12 _ cc11
        refine hK.out _ _ hC11 ?_
        clear hK K
        (try simp only [Act.put, List.setIfInBounds_toArray, List.set_cons_zero, List.set_cons_succ])
        refine wpHold_one (k := 31) (by kernel_rfl) rfl (fun K hK => ?_)
        (try simp only [List.getElem_toArray, List.getElem_cons_succ, List.getElem_cons_zero])
        go_simp
        refine (unhide HT3 _ _ (bstep (unhide HB6) (bstep (unhide HB9) cc11)) hv11).mono ?_
        rintro e xw12 ⟨rfl, hb12⟩
        have cc12 := bstep cc11 hb12
        have hC12 := unhide HC12 _ cc12
        refine hK.out _ _ hC12 ?_
        clear hK K
        (try simp only [Act.put, List.setIfInBounds_toArray, List.set_cons_zero, List.set_cons_succ])
        refine wpHold_one (k := 34) (by kernel_rfl) rfl (fun K hK => ?_)
        (try simp only [List.getElem_toArray, List.getElem_cons_succ, List.getElem_cons_zero])
        go_simp
        refine (refMul_any bx by' 1 1 _ _ _ ((unhide HRA6).below (bstep (unhide HB9) cc12)) ((unhide HRB6).below (bstep (unhide HB9) cc12)) (unhide HQA) (unhide HQB) (by decide)).mono ?_
        rintro e xw13 ⟨xb13, rfl, -, hv13, hb13⟩
        have cc13 := bstep cc12 hb13
        have hC13 := unhide HC12 _ cc13
        refine hK.out _ _ hC13 ?_
        clear hK K
        (try simp only [Act.put, List.setIfInBounds_toArray, List.set_cons_zero, List.set_cons_succ])
        refine wpHold_one (k := 35) (by kernel_rfl) rfl (fun K hK => ?_)
        (try simp only [List.getElem_toArray, List.getElem_cons_succ, List.getElem_cons_zero])
        go_simp
        refine (unhide HU3 _ _ (bstep (unhide HB6) (bstep (unhide HB9) cc13)) hv13).mono ?_
        rintro e xw14 ⟨rfl, hb14⟩
        have cc14 := bstep cc13 hb14
        have hC14 := unhide HC12 _ cc14
        refine hK.out _ _ hC14 ?_
        clear hK K
        (try simp only [Act.put, List.setIfInBounds_toArray, List.set_cons_zero, List.set_cons_succ])
        refine wpHold_take (i := 36) (v := ?_) rfl (by kernel_rfl) (by kernel_rfl) (by kernel_rfl) (fun _ _ _ h => h) (Or.inl ⟨by rfl, ?_⟩) hC14 ?_
        rotate_left
        · intro w hSw; clear hSw; go_simp; (try with_reducible rfl)
        (try simp only [List.getElem_toArray, List.getElem_cons_succ, List.getElem_cons_zero])
        (try simp only [Act.put, List.setIfInBounds_toArray, List.set_cons_zero, List.set_cons_succ])
        refine wpHold_take (i := 37) (v := ?_) rfl (by kernel_rfl) (by kernel_rfl) (by kernel_rfl) (fun _ _ _ h => h) (Or.inl ⟨by rfl, ?_⟩) hC14 ?_
        rotate_left
        · intro w hSw; clear hSw; go_simp; (try with_reducible rfl)
        (try simp only [List.getElem_toArray, List.getElem_cons_succ, List.getElem_cons_zero])
        (try simp only [Act.put, List.setIfInBounds_toArray, List.set_cons_zero, List.set_cons_succ])
        refine wpHold_take (i := 38) (v := ?_) rfl (by kernel_rfl) (by kernel_rfl) (by kernel_rfl) (fun _ _ _ h => h) (Or.inl ⟨by rfl, ?_⟩) hC14 ?_
        rotate_left
        · intro w hSw; clear hSw; go_simp; (try with_reducible rfl)
        (try simp only [List.getElem_toArray, List.getElem_cons_succ, List.getElem_cons_zero])
        (try simp only [Act.put, List.setIfInBounds_toArray, List.set_cons_zero, List.set_cons_succ])
        refine wpHold_take (i := 39) (v := ?_) rfl (by kernel_rfl) (by kernel_rfl) (by kernel_rfl) (fun _ _ _ h => h) (Or.inl ⟨by rfl, ?_⟩) hC14 ?_
        rotate_left
        · intro w hSw; (try dsimp only at hSw); obtain ⟨⟨z0, z1, z2⟩, ⟨z3, z4, z5⟩, z6, z7, z8⟩ := hSw; go_simp; (try with_reducible rfl)
        (try simp only [List.getElem_toArray, List.getElem_cons_succ, List.getElem_cons_zero])
        (try simp only [Act.put, List.setIfInBounds_toArray, List.set_cons_zero, List.set_cons_succ])
        refine wpHold_take (i := 40) (v := ?_) rfl (by kernel_rfl) (by kernel_rfl) (by kernel_rfl) (fun _ _ _ h => h) (Or.inl ⟨by rfl, ?_⟩) hC14 ?_
        rotate_left
        · intro w hSw; clear hSw; go_simp; (try with_reducible rfl)
        (try simp only [List.getElem_toArray, List.getElem_cons_succ, List.getElem_cons_zero])
        (try simp only [Act.put, List.setIfInBounds_toArray, List.set_cons_zero, List.set_cons_succ])
        refine wpHold_take (i := 41) (v := ?_) rfl (by kernel_rfl) (by kernel_rfl) (by kernel_rfl) (fun _ _ _ h => h) (Or.inl ⟨by rfl, ?_⟩) hC14 ?_
        rotate_left
        · intro w hSw; clear hSw; go_simp; (try with_reducible rfl)
        (try simp only [List.getElem_toArray, List.getElem_cons_succ, List.getElem_cons_zero])
        (try simp only [Act.put, List.setIfInBounds_toArray, List.set_cons_zero, List.set_cons_succ])
        refine wpHold_take (i := 42) (v := ?_) rfl (by kernel_rfl) (by kernel_rfl) (by kernel_rfl) (fun _ _ _ h => h) (Or.inl ⟨by rfl, ?_⟩) hC14 ?_
        rotate_left
        · intro w hSw; clear hSw; go_simp; (try with_reducible rfl)
        (try simp only [List.getElem_toArray, List.getElem_cons_succ, List.getElem_cons_zero])
        (try simp only [Act.put, List.setIfInBounds_toArray, List.set_cons_zero, List.set_cons_succ])
        refine wpHold_take (i := 44) (v := ?_) rfl (by kernel_rfl) (by kernel_rfl) (by kernel_rfl) (fun _ _ _ h => h) (Or.inl ⟨by rfl, ?_⟩) hC14 ?_
        rotate_left
        · intro w hSw; clear hSw; go_simp; (try with_reducible rfl)
        (try simp only [List.getElem_toArray, List.getElem_cons_succ, List.getElem_cons_zero])
        (try simp only [Act.put, List.setIfInBounds_toArray, List.set_cons_zero, List.set_cons_succ])
        refine wpHold_one (k := 43) (by kernel_rfl) rfl (fun K hK => ?_)
        (try simp only [List.getElem_toArray, List.getElem_cons_succ, List.getElem_cons_zero])
        go_simp
        refine (unhide HDI _ (bstep (unhide HB9) cc14)).mono ?_
        rintro e xw15 ⟨xb15, rfl, -, hv15, hb15⟩
        have cc15 := bstep cc14 hb15
        have hC15 := unhide HC12 _ cc15
        refine hK.out _ _ hC15 ?_
        clear hK K
        (try simp only [Act.put, List.setIfInBounds_toArray, List.set_cons_zero, List.set_cons_succ])
        refine wpHold_one (k := 45) (by kernel_rfl) rfl (fun K hK => ?_)
        (try simp only [List.getElem_toArray, List.getElem_cons_succ, List.getElem_cons_zero])
        go_simp
        refine (unhide HON _ _ (bstep (unhide HB9) cc15) hv15).mono ?_
        rintro e xw16 ⟨rfl, hb16⟩
        have cc16 := bstep cc15 hb16
        have hC16 := unhide HC12 _ cc16
        refine hK.out _ _ hC16 ?_
        clear hK K
        (try simp only [Act.put, List.setIfInBounds_toArray, List.set_cons_zero, List.set_cons_succ])
        refine wpHold_take (i := 46) (v := ?_) rfl (by kernel_rfl) (by kernel_rfl) (by kernel_rfl) (fun _ _ _ h => h) (Or.inl ⟨by rfl, ?_⟩) hC16 ?_
        rotate_left
        · intro w hSw; clear hSw; go_simp; (try with_reducible rfl)
        (try simp only [List.getElem_toArray, List.getElem_cons_succ, List.getElem_cons_zero])
        (try simp only [Act.put, List.setIfInBounds_toArray, List.set_cons_zero, List.set_cons_succ])
        refine wpHold_take (i := 47) (v := ?_) rfl (by kernel_rfl) (by kernel_rfl) (by kernel_rfl) (fun _ _ _ h => h) (Or.inl ⟨by rfl, ?_⟩) hC16 ?_
        rotate_left
        · intro w hSw; clear hSw; go_simp; (try with_reducible rfl)
        (try simp only [List.getElem_toArray, List.getElem_cons_succ, List.getElem_cons_zero])
        (try simp only [Act.put, List.setIfInBounds_toArray, List.set_cons_zero, List.set_cons_succ])
        refine wpHold_take (i := 48) (v := ?_) rfl (by kernel_rfl) (by kernel_rfl) (by kernel_rfl) (fun _ _ _ h => h) (Or.inl ⟨by rfl, ?_⟩) hC16 ?_
        rotate_left
        · intro w hSw; (try dsimp only at hSw); obtain ⟨⟨z0, z1, z2⟩, ⟨z3, z4, z5⟩, z6, z7, z8⟩ := hSw; go_simp; (try with_reducible rfl)
        (try simp only [List.getElem_toArray, List.getElem_cons_succ, List.getElem_cons_zero])
        (try simp only [Act.put, List.setIfInBounds_toArray, List.set_cons_zero, List.set_cons_succ])
        refine wpHold_take (i := 50) (v := ?_) rfl (by kernel_rfl) (by kernel_rfl) (by kernel_rfl) (fun _ _ _ h => h) (Or.inl ⟨by rfl, ?_⟩) hC16 ?_
        rotate_left
        · intro w hSw; clear hSw; go_simp; (try with_reducible rfl)
        (try simp only [List.getElem_toArray, List.getElem_cons_succ, List.getElem_cons_zero])
        (try simp only [Act.put, List.setIfInBounds_toArray, List.set_cons_zero, List.set_cons_succ])
        refine wpHold_one (k := 49) (by kernel_rfl) rfl (fun K hK => ?_)
        (try simp only [List.getElem_toArray, List.getElem_cons_succ, List.getElem_cons_zero])
        go_simp
        refine (unhide HS1 _ _ ((unhide HX5).2.below (bstep (unhide HB9) cc16))).mono ?_
        rintro e xw17 ⟨rfl, hb17⟩
        have cc17 := bstep cc16 hb17
        have hC17 := unhide HC12 _ cc17
        refine hK.out _ _ hC17 ?_
        clear hK K
        (try simp only [Act.put, List.setIfInBounds_toArray, List.set_cons_zero, List.set_cons_succ])
        refine wpHold_one (k := 51) (by kernel_rfl) rfl (fun K hK => ?_)
        (try simp only [List.getElem_toArray, List.getElem_cons_succ, List.getElem_cons_zero])
        go_simp
        refine (unhide HS2 _ _ ((unhide HRA6).below (bstep (unhide HB9) cc17))).mono ?_
        rintro e xw18 ⟨rfl, hb18⟩
        have cc18 := bstep cc17 hb18
        have hC18 := unhide HC12 _ cc18
        refine hK.out _ _ hC18 ?_
        clear hK K
        (try simp only [Act.put, List.setIfInBounds_toArray, List.set_cons_zero, List.set_cons_succ])
        refine wpHold_take (i := 52) (v := ?_) rfl (by kernel_rfl) (by kernel_rfl) (by kernel_rfl) (fun _ _ _ h => h) (Or.inl ⟨by rfl, ?_⟩) hC18 ?_
        rotate_left
        · intro w hSw; clear hSw; go_simp; (try with_reducible rfl)
        (try simp only [List.getElem_toArray, List.getElem_cons_succ, List.getElem_cons_zero])
        (try simp only [Act.put, List.setIfInBounds_toArray, List.set_cons_zero, List.set_cons_succ])
        refine wpHold_take (i := 53) (v := ?_) rfl (by kernel_rfl) (by kernel_rfl) (by kernel_rfl) (fun _ _ _ h => h) (Or.inl ⟨by rfl, ?_⟩) hC18 ?_
        rotate_left
        · intro w hSw; clear hSw; go_simp; (try with_reducible rfl)
        (try simp only [List.getElem_toArray, List.getElem_cons_succ, List.getElem_cons_zero])
        (try simp only [Act.put, List.setIfInBounds_toArray, List.set_cons_zero, List.set_cons_succ])
        refine wpHold_take (i := 54) (v := ?_) rfl (by kernel_rfl) (by kernel_rfl) (by kernel_rfl) (fun _ _ _ h => h) (Or.inl ⟨by rfl, ?_⟩) hC18 ?_
        rotate_left
        · intro w hSw; clear hSw; go_simp; (try with_reducible rfl)
        (try simp only [List.getElem_toArray, List.getElem_cons_succ, List.getElem_cons_zero])
        (try simp only [Act.put, List.setIfInBounds_toArray, List.set_cons_zero, List.set_cons_succ])
        refine wpHold_take (i := 55) (v := ?_) rfl (by kernel_rfl) (by kernel_rfl) (by kernel_rfl) (fun _ _ _ h => h) (Or.inl ⟨by rfl, ?_⟩) hC18 ?_
        rotate_left
        · intro w hSw; (try dsimp only at hSw); obtain ⟨⟨z0, z1, z2⟩, ⟨z3, z4, z5⟩, z6, z7, z8⟩ := hSw; go_simp; (try with_reducible rfl)
        (try simp only [List.getElem_toArray, List.getElem_cons_succ, List.getElem_cons_zero])
        (try simp only [Act.put, List.setIfInBounds_toArray, List.set_cons_zero, List.set_cons_succ])
        refine wpHold_take (i := 56) (v := ?_) rfl (by kernel_rfl) (by kernel_rfl) (by kernel_rfl) (fun _ _ _ h => h) (Or.inl ⟨by rfl, ?_⟩) hC18 ?_
        rotate_left
        · intro w hSw; (try dsimp only at hSw); obtain ⟨⟨z0, z1, z2⟩, ⟨z3, z4, z5⟩, z6, z7, z8⟩ := hSw; go_simp; (try with_reducible rfl)
        (try simp only [List.getElem_toArray, List.getElem_cons_succ, List.getElem_cons_zero])
        (try simp only [Act.put, List.setIfInBounds_toArray, List.set_cons_zero, List.set_cons_succ])
        refine wpHold_take (i := 58) (v := ?_) rfl (by kernel_rfl) (by kernel_rfl) (by kernel_rfl) (fun _ _ _ h => h) (Or.inl ⟨by rfl, ?_⟩) hC18 ?_
        rotate_left
        · intro w hSw; clear hSw; go_simp; (try with_reducible rfl)
        (try simp only [List.getElem_toArray, List.getElem_cons_succ, List.getElem_cons_zero])
        (try simp only [Act.put, List.setIfInBounds_toArray, List.set_cons_zero, List.set_cons_succ])
        refine wpHold_take (i := 59) (v := ?_) rfl (by kernel_rfl) (by kernel_rfl) (by kernel_rfl) (fun _ _ _ h => h) (Or.inl ⟨by rfl, ?_⟩) hC18 ?_
        rotate_left
        · intro w hSw; clear hSw; go_simp; (try with_reducible rfl)
        (try simp only [List.getElem_toArray, List.getElem_cons_succ, List.getElem_cons_zero])
        (try simp only [Act.put, List.setIfInBounds_toArray, List.set_cons_zero, List.set_cons_succ])
        refine wpHold_one (k := 57) (by kernel_rfl) rfl (fun K hK => ?_)
        (try simp only [List.getElem_toArray, List.getElem_cons_succ, List.getElem_cons_zero])
        go_simp
        refine (unhide HP1 _ _ _ ((unhide HX5).2.below (bstep (unhide HB9) cc18)) ((unhide HX6).2.below (bstep (unhide HB9) cc18))).mono ?_
        rintro e xw19 ⟨rfl, hb19⟩
        have cc19 := bstep cc18 hb19
        have hC19 := unhide HC12 _ cc19
        refine hK.out _ _ hC19 ?_
        clear hK K
        (try simp only [Act.put, List.setIfInBounds_toArray, List.set_cons_zero, List.set_cons_succ])
        refine wpHold_one (k := 60) (by kernel_rfl) rfl (fun K hK => ?_)
        (try simp only [List.getElem_toArray, List.getElem_cons_succ, List.getElem_cons_zero])
        go_simp
        refine (unhide HP2 _ _ _ ((unhide HRA6).below (bstep (unhide HB9) cc19)) ((unhide HRB6).below (bstep (unhide HB9) cc19))).mono ?_
        rintro e xw20 ⟨rfl, hb20⟩
        have cc20 := bstep cc19 hb20
        have hC20 := unhide HC12 _ cc20
        refine hK.out _ _ hC20 ?_
        clear hK K
        (try simp only [Act.put, List.setIfInBounds_toArray, List.set_cons_zero, List.set_cons_succ])
        refine wpHold_take (i := 61) (v := ?_) rfl (by kernel_rfl) (by kernel_rfl) (by kernel_rfl) (fun _ _ _ h => h) (Or.inl ⟨by rfl, ?_⟩) hC20 ?_
        rotate_left
        · intro w hSw; clear hSw; go_simp; (try with_reducible rfl)
        (try simp only [List.getElem_toArray, List.getElem_cons_succ, List.getElem_cons_zero])
        (try simp only [Act.put, List.setIfInBounds_toArray, List.set_cons_zero, List.set_cons_succ])
        refine wpHold_take (i := 62) (v := ?_) rfl (by kernel_rfl) (by kernel_rfl) (by kernel_rfl) (fun _ _ _ h => h) (Or.inl ⟨by rfl, ?_⟩) hC20 ?_
        rotate_left
        · intro w hSw; clear hSw; go_simp; (try with_reducible rfl)
        (try simp only [List.getElem_toArray, List.getElem_cons_succ, List.getElem_cons_zero])
        (try simp only [Act.put, List.setIfInBounds_toArray, List.set_cons_zero, List.set_cons_succ])
        refine wpHold_one (k := 63) (by kernel_rfl) rfl (fun K hK => ?_)
        (try simp only [List.getElem_toArray, List.getElem_cons_succ, List.getElem_cons_zero])
        go_simp
        refine hK.out _ _ hC20 ?_
        clear hK K
        (try simp only [Act.put, List.setIfInBounds_toArray, List.set_cons_zero, List.set_cons_succ])
        refine wpHold_done (by kernel_rfl) ?_ _
        have HBF := hide (bstep (unhide HBW) (bstep (unhide HB6) (bstep (unhide HB9) cc20)))
        clear hb1 cc1 hC1 hb2 cc2 hC2 hb3 cc3 hC3 hb4 cc4 hC4 hb5 cc5 hC5 hb6 cc6 hC6 hb7 cc7 hC7 hb8 cc8 hC8 hb9 cc9 hC9 hb10 cc10 hC10 hb11 cc11 hC11 hb12 cc12 hC12 hb13 cc13 hC13 hb14 cc14 hC14 hb15 cc15 hC15 hb16 cc16 hC16 hb17 cc17 hC17 hb18 cc18 hC18 hb19 cc19 hC19 hb20 cc20 hC20 bd0 hC0 HC12
        go_wp2
        go_ret
        exact ⟨rfl, unhide HBF⟩
end Go.Proofs.YtnmmfcoclpapdaaGreatDoor
