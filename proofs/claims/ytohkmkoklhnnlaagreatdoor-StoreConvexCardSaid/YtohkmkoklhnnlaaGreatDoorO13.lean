/- The rule of a period, by the program. -/
import Derived.Test.YtohkmkoklhnnlaaGreatDoorO12
namespace Go.Proofs.YtohkmkoklhnnlaaGreatDoor
open Go.RowKit Go.Sort Go.Shelf

def pH (qs : List Rat) (B : Int → Rat) (E L S : Int) (i : Nat) : Rat := prV qs B E L S ((i : Int) - 40)
def cO (qs : List Rat) (B : Int → Rat) (F E L S : Int) (i : Nat) : Rat := Sto.cst (pH qs B E L S) ((F : Int) : Rat) 80 i - ((E * ((i : Int) - 40) : Int) : Rat)
def rowQ (c : Nat → Rat) (d : Nat) : List Rat := (List.range 81).map (fun i => if 80 < i + d then c i else 0)
theorem rowQ_len (c : Nat → Rat) (d : Nat) : (rowQ c d).length = 81 := by unfold rowQ; rw [List.length_map, List.length_range]
theorem rowQ_zero (c : Nat → Rat) : rowQ c 0 = List.replicate 81 0 := by
  apply List.ext_getElem?
  intro i
  unfold rowQ
  by_cases h : i < 81
  · rw [List.getElem?_map, List.getElem?_range h, List.getElem?_replicate, if_pos h]
    show some (if 80 < i + 0 then c i else 0) = some 0
    rw [if_neg (by omega)]
  · rw [List.getElem?_eq_none (by simp; omega), List.getElem?_eq_none (by simp; omega)]
theorem rowQ_set (c : Nat → Rat) {d : Nat} (hd : d < 81) : (rowQ c d).set (80 - d) (c (80 - d)) = rowQ c (d + 1) := by
  apply List.ext_getElem?
  intro i
  rw [List.getElem?_set]
  by_cases h : i < 81
  · unfold rowQ
    rw [List.getElem?_map, List.getElem?_map, List.getElem?_range h]
    by_cases e : 80 - d = i
    · subst e
      rw [if_pos rfl, if_pos (by rw [List.length_map, List.length_range]; omega)]
      show some _ = some (if 80 < 80 - d + (d + 1) then c (80 - d) else 0)
      rw [if_pos (by omega)]
    · rw [if_neg e]
      show some (if 80 < i + d then c i else 0) = some (if 80 < i + (d + 1) then c i else 0)
      by_cases h2 : 80 < i + d
      · rw [if_pos h2, if_pos (by omega)]
      · rw [if_neg h2, if_neg (by omega)]
  · rw [if_neg (by omega), List.getElem?_eq_none (by rw [rowQ_len]; omega), List.getElem?_eq_none (by rw [rowQ_len]; omega)]
theorem rowQ_get (c : Nat → Rat) {i : Nat} (h : i < 81) : (rowQ c 81)[i]! = c i := by
  rw [getElem!_pos (rowQ c 81) i (by rw [rowQ_len]; exact h)]
  unfold rowQ
  rw [List.getElem_map, List.getElem_range, if_pos (by omega)]
theorem cmp_neg {p q : Rat} : Wd.sg (p.num * q.den) (q.num * p.den) < 0 ↔ p < q := by
  rw [sgl_neg]
  have h := Rat.le_iff q p
  constructor
  · intro h1
    have : ¬ q ≤ p := fun h2 => by have := h.1 h2; omega
    grind
  · intro h1
    have : ¬ q ≤ p := by grind
    have h3 : ¬ (q.num * p.den ≤ p.num * q.den) := fun h4 => this (h.2 h4)
    omega
theorem cmp_pos {p q : Rat} : 0 < Wd.sg (p.num * q.den) (q.num * p.den) ↔ q < p := by
  rw [sgl_pos]
  have h := Rat.le_iff p q
  constructor
  · intro h1
    have : ¬ p ≤ q := fun h2 => by have := h.1 h2; omega
    grind
  · intro h1
    have : ¬ p ≤ q := by grind
    have h3 : ¬ (p.num * q.den ≤ q.num * p.den) := fun h4 => this (h.2 h4)
    omega
theorem smR {q : Rat} {j : Nat} (h : RS q j) (hj : j ≤ KK) : Sm q.num.natAbs ∧ Sm q.den := ⟨sm_of h.1 hj, sm_of h.2 hj⟩
theorem pH_RS {qs : List Rat} {B : Int → Rat} {E L S : Int} {JB : Nat} (hlen : qs.length ≤ 101) (hL : 0 ≤ L ∧ L ≤ 1000) (hS : 0 ≤ S ∧ S ≤ 1000) (hE : 0 ≤ E ∧ E ≤ 1000) (hq : ∀ j, j < qs.length → RS qs[j]! 1) (hBR : ∀ x : Int, -150 ≤ x → x ≤ 40 → RS (B x) JB) (hJB : JB ≤ 1000000) (i : Nat) (hi : i ≤ 80) : RS (pH qs B E L S i) 110000000 := by
  have h1 := havV_RS (y := (i : Int) - 40) hlen hL hS hq hBR (by omega)
  have h2 : -40000 ≤ E * ((i : Int) - 40) ∧ E * ((i : Int) - 40) ≤ 40000 := by
    rcases Int.le_total 0 ((i : Int) - 40) with c | c
    · have := mulB hE.1 hE.2 c (show (i : Int) - 40 ≤ 40 by omega); omega
    · have := mulB hE.1 hE.2 (show 0 ≤ -((i : Int) - 40) by omega) (show -((i : Int) - 40) ≤ 40 by omega)
      rw [Int.mul_neg] at this
      omega
  exact (h1.add (whole_RS (x := E * ((i : Int) - 40)) ⟨by omega, by omega⟩)).mono (by omega)
def RuPost (qs : List Rat) (B : Int → Rat) (F E L S : Int) (w : World) (e : Ending) (w' : World) : Prop :=
  ∃ (lo hi : Int) (g : Nat), e = .returned (.agg #[.int .i64 lo, .int .i64 hi, .slice (some ⟨g, 0, none⟩) 81 81]) ∧ w.heap.size ≤ g ∧ LawIs w' (.slice (some ⟨g, 0, none⟩) 81 81) (rowQ (cO qs B F E L S) 81) ∧ Below w.heap.size w w'
/-- What the loop holds behind d steps. -/
def RuE (qs : List Rat) (B : Int → Rat) (E L S : Int) (v : Value) (F : Int) (fk : Nat) (bd : Array Value) (tf : Tri) (w : World) (gb gr gC go gf gB : Nat) (d : Nat) (tb : Tri) (lo hi : Int) (us : List Tri) (cs : List Rat) (W : World) : Prop :=
  RuS w W w.heap.size gb gr gC go gf gB v F E L S fk bd tf tb lo hi (((Sto.bst (pH qs B E L S) 80 d : Nat) : Int) - 40) ((pH qs B E L S) (Sto.bst (pH qs B E L S) 80 d)) us cs
set_option maxHeartbeats 16000000 in
set_option maxRecDepth 100000 in
set_option linter.unusedSimpArgs false in
theorem rule_any (v : Value) (F E L S : Int) (fk : Nat) (bd : Array Value) (B : Int → Rat) (JB : Nat) (qs : List Rat) (w : World) (h : LawIs w v qs) (hlen : qs.length ≤ 101) (hL : 0 ≤ L ∧ L ≤ 1000) (hS : 0 ≤ S ∧ S ≤ 1000) (hq : ∀ j, j < qs.length → RS qs[j]! 1) (heg : ∀ args w, (callFunc fk args).run Tryz.prog w = .ok (.enter fk args) w) (hBR : ∀ x : Int, -150 ≤ x → x ≤ 40 → RS (B x) JB) (hJB : JB ≤ 1000000) (hE : 0 ≤ E ∧ E ≤ 1000) (hF : 0 ≤ F ∧ F ≤ 1000) (hB : ∀ (x : Int), -150 ≤ x → x ≤ 40 → ∀ W, Below w.heap.size w W → Calls Tryz.prog fk (#[.int .i64 x] ++ bd) W fun e w' => ∃ v, e = .returned v ∧ RatIs w' v (B x) ∧ Below W.heap.size W w') :
    Calls Tryz.prog 17 #[.agg #[v, .int .i64 F, .int .i64 E, .int .i64 L, .int .i64 S], .func (.func fk) #[] bd] w (RuPost qs B F E L S w) := by
  have KKe : KK = 1099511627776 := rfl
  have HL := hide h
  obtain ⟨va, vc, rfl, hv1, hv2, _⟩ := h
  obtain ⟨v, hv⟩ : ∃ v, Value.slice va qs.length vc = v := ⟨_, rfl⟩
  rw [hv] at HL ⊢
  have b1 := alloc_below w (.cells #[v, .int .i64 F, .int .i64 E, .int .i64 L, .int .i64 S] 28)
  have X0 : ShopAt (w.alloc (.cells #[v, .int .i64 F, .int .i64 E, .int .i64 L, .int .i64 S] 28)) w.heap.size v F E L S := heap_alloc_new w _
  obtain ⟨W1, hW1⟩ : ∃ W, w.alloc (.cells #[v, .int .i64 F, .int .i64 E, .int .i64 L, .int .i64 S] 28) = W := ⟨_, rfl⟩
  obtain ⟨gb, s1⟩ : ∃ g, W1.heap.size = g := ⟨_, rfl⟩
  have z1 : w.heap.size + 1 = gb := by rw [← s1, ← hW1, alloc_size]
  rw [hW1] at b1 X0
  have b2 := alloc_below W1 (.cells #[.func (.func fk) #[] bd] 44)
  have X1 : OneAt (W1.alloc (.cells #[.func (.func fk) #[] bd] 44)) W1.heap.size (.func (.func fk) #[] bd) 44 := heap_alloc_new W1 _
  obtain ⟨W2, hW2⟩ : ∃ W, W1.alloc (.cells #[.func (.func fk) #[] bd] 44) = W := ⟨_, rfl⟩
  obtain ⟨gr, s2⟩ : ∃ g, W2.heap.size = g := ⟨_, rfl⟩
  have z2 : gb + 1 = gr := by rw [← s2, ← hW2, alloc_size, s1]
  rw [hW2] at b2 X1
  rw [s1] at X1
  have b3 := alloc_below W2 (.cells #[.int .i64 0, .int .i64 0, .slice none 0 0] 36)
  have X2 := heap_alloc_new W2 (.cells #[.int .i64 0, .int .i64 0, .slice none 0 0] 36)
  obtain ⟨W3, hW3⟩ : ∃ W, W2.alloc (.cells #[.int .i64 0, .int .i64 0, .slice none 0 0] 36) = W := ⟨_, rfl⟩
  obtain ⟨gC, s3⟩ : ∃ g, W3.heap.size = g := ⟨_, rfl⟩
  have z3 : gr + 1 = gC := by rw [← s3, ← hW3, alloc_size, s2]
  rw [hW3] at b3 X2
  rw [s2] at X2
  have mk : (Instr.makeSlice 23 (.int .i64 81) (.int .i64 81)).run Tryz.prog W3 = .ok (.slice (some ⟨W3.heap.size, 0, none⟩) 81 81) (W3.alloc (.cells (tcells (List.replicate 81 zTri)).toArray 40)) := make_ratios 81 (by decide) (by decide) W3
  have b4 := alloc_below W3 (.cells (tcells (List.replicate 81 zTri)).toArray 40)
  have X3 := SumsAt.start w W3 81 (below_step (below_step b1 b2) b3)
  obtain ⟨W4, hW4⟩ : ∃ W, W3.alloc (.cells (tcells (List.replicate 81 zTri)).toArray 40) = W := ⟨_, rfl⟩
  obtain ⟨go, s4⟩ : ∃ g, W4.heap.size = g := ⟨_, rfl⟩
  have z4 : gC + 1 = go := by rw [← s4, ← hW4, alloc_size, s3]
  rw [hW4] at b4 X3 mk
  rw [s3] at X3 mk
  have b5 := alloc_below W4 (.cells #[.int .i64 0, .int .i64 0, .slice (some ⟨gC, 0, none⟩) 81 81] 36)
  have X4 := heap_alloc_new W4 (.cells #[.int .i64 0, .int .i64 0, .slice (some ⟨gC, 0, none⟩) 81 81] 36)
  obtain ⟨W5, hW5⟩ : ∃ W, W4.alloc (.cells #[.int .i64 0, .int .i64 0, .slice (some ⟨gC, 0, none⟩) 81 81] 36) = W := ⟨_, rfl⟩
  have s5 : W5.heap.size = go + 1 := by rw [← hW5, alloc_size, s4]
  rw [hW5] at b5 X4
  rw [s4] at X4
  have bb : Below w.heap.size w W5 := below_step (below_step (below_step (below_step b1 b2) b3) b4) b5
  have Y0 := (((X0.keep b2).keep b3).keep b4).keep b5
  have Y1 := ((X1.keep b3).keep b4).keep b5
  have Y2 := heap_kept (heap_kept X2 b4) b5
  have Y3 := X3.keep b5
  have HP5 : Hid (∀ W, Below W5.heap.size W5 W → ShopAt W w.heap.size v F E L S ∧ OneAt W gb (.func (.func fk) #[] bd) 44 ∧ W.heap[gr]? = some (.cells #[.int .i64 0, .int .i64 0, .slice none 0 0] 36) ∧ W.heap[go]? = some (.cells #[.int .i64 0, .int .i64 0, .slice (some ⟨gC, 0, none⟩) 81 81] 36) ∧ SumsAt w W gC (List.replicate 81 zTri) (List.replicate 81 0)) := fun W hW =>
    ⟨Y0.keep hW, Y1.keep hW, heap_kept Y2 hW, heap_kept X4 hW, Y3.keep hW⟩
  have HBB : Hid (∀ W, Below W5.heap.size W5 W → Below w.heap.size w W) := fun W hW => below_step bb hW
  have HPR : Hid (∀ (y : Int) W, -40 ≤ y ∧ y ≤ 40 → ShopAt W w.heap.size v F E L S → OneAt W gb (.func (.func fk) #[] bd) 44 → Below w.heap.size w W → Calls Tryz.prog 36 #[.int .i64 y, .pointer (some ⟨w.heap.size, 0, none⟩), .pointer (some ⟨gb, 0, none⟩)] W fun e w' => ∃ t : Tri, e = .returned (.agg #[.int .i64 y, .bool t.s, .slice t.a1 t.n1 t.c1, .slice t.a2 t.n2 t.c2]) ∧ RatIs w' t.val (prV qs B E L S y) ∧ Below W.heap.size W w') := fun y W hy k1 k2 k3 =>
    priced_any v F E L S fk bd B JB qs w.heap.size gb y W ((unhide HL).below k3) hlen hL hS hq heg hBR hJB hy hE k1 k2.cell (fun x h1 h2 W' hW' => hB x h1 h2 W' (below_step k3 hW'))
  have HRP : Hid (∀ i, i ≤ 80 → RS ((pH qs B E L S) i) 110000000) := fun i hi => pH_RS hlen hL hS hE hq hBR hJB i hi
  have C0 := hide (whole_any F (by omega) (by omega) W5)
  have HRF : Hid (RS ((F : Int) : Rat) 110000000) := (whole_RS (x := F) ⟨by omega, by omega⟩).mono (by omega)
  have HRF1 : Hid (RS ((F : Int) : Rat) 1) := whole_RS (x := F) ⟨by omega, by omega⟩
  have HKK : Hid (120000000 + 120000000 + 1 ≤ KK) := by show _ ≤ _; omega
  have HKJ : Hid (120000000 ≤ KK) := by show _ ≤ _; omega
  have c1 := Y0.cells.2.1
  have HZ : Hid (w.heap.size < gb ∧ gb < gr ∧ gr < gC ∧ gC < go ∧ go < W5.heap.size) := ⟨by omega, by omega, by omega, by omega, by omega⟩
  have HEB := hide hE
  clear hv hlen hL hS hq hBR hJB hB b1 b2 b3 b4 b5 bb X0 X1 X2 X3 X4 Y0 Y1 Y2 Y3 z1 z2 z3 z4 s5 KKe hv1 hv2 HL hE hF
  go_enter Tryz.func17, Tryz.ntmps17
  go_wp2_with fail
  clear hW1 hW2 hW3 hW4 hW5 s1 s2 s3 s4 mk
  refine (unhide C0).mono ?_
  rintro e w6 ⟨v6, rfl, hv6, hb6⟩
  obtain ⟨tf, rfl, hr6⟩ := tri_of hv6
  simp only [Tri.val]
  have hbx := below_step hb6 (alloc_below w6 (.cells #[.bool tf.s, .slice tf.a1 tf.n1 tf.c1, .slice tf.a2 tf.n2 tf.c2] 40))
  have XF := BoxIs.new hr6
  have hlt6 := hb6.size
  obtain ⟨W6, hW6⟩ : ∃ W, w6.alloc (.cells #[.bool tf.s, .slice tf.a1 tf.n1 tf.c1, .slice tf.a2 tf.n2 tf.c2] 40) = W := ⟨_, rfl⟩
  obtain ⟨gf, s6⟩ : ∃ g, w6.heap.size = g := ⟨_, rfl⟩
  rw [hW6] at hbx XF
  rw [s6] at XF hlt6
  have HX6 := hide XF
  have HB6 := hide hbx
  have p5 := unhide HP5 _ hbx
  have C1 := hide (unhide HPR 40 W6 (by decide) p5.1 p5.2.1 (unhide HBB _ hbx))
  have HLT6 := hide hlt6
  clear hv6 hr6 hb6 hbx XF C0 c1 p5 hlt6
  go_wp2_with fail
  clear hW6 s6
  refine (unhide C1).mono ?_
  rintro e w7 ⟨tb0, rfl, hr7, hb7⟩
  have hbx := below_step (unhide HB6) (below_step hb7 (alloc_below w7 (.cells #[.int .i64 40, .bool tb0.s, .slice tb0.a1 tb0.n1 tb0.c1, .slice tb0.a2 tb0.n2 tb0.c2] 74)))
  have XB := GoalAt.new (y := 40) hr7
  have XF := ((unhide HX6).keep hb7).keep (alloc_below w7 (.cells #[.int .i64 40, .bool tb0.s, .slice tb0.a1 tb0.n1 tb0.c1, .slice tb0.a2 tb0.n2 tb0.c2] 74))
  have hlt7 := Nat.lt_of_lt_of_le (unhide HX6).lt hb7.size
  obtain ⟨W7, hW7⟩ : ∃ W, w7.alloc (.cells #[.int .i64 40, .bool tb0.s, .slice tb0.a1 tb0.n1 tb0.c1, .slice tb0.a2 tb0.n2 tb0.c2] 74) = W := ⟨_, rfl⟩
  obtain ⟨gB, s7⟩ : ∃ g, w7.heap.size = g := ⟨_, rfl⟩
  rw [hW7] at hbx XB XF
  rw [s7] at XB hlt7
  have p5 := unhide HP5 _ hbx
  have HOR : Hid (RuO w w.heap.size gb gr gC go gf gB) := by
    have z := unhide HZ
    have z6 := unhide HLT6
    exact ⟨Nat.le_refl _, z.1, z.2.1, z.2.2.1, z.2.2.2.1, by omega, hlt7⟩
  have HS0 : Hid (RuE qs B E L S v F fk bd tf w gb gr gC go gf gB 0 tb0 0 0 (List.replicate 81 zTri) (rowQ (cO qs B F E L S) 0) W7) := by
    show RuS _ _ _ _ _ _ _ _ _ _ _ _ _ _ _ _ _ _ _ _ _ _ _ _
    rw [rowQ_zero]
    exact ⟨p5.1, p5.2.1, p5.2.2.1, p5.2.2.2.1, XF, XB, p5.2.2.2.2, by rw [List.length_replicate]⟩
  clear hr7 hb7 hbx XB XF C1 p5 hlt7 HP5 HBB HX6 HB6 HLT6
  go_wp2_with fail
  clear hW7 s7
  go_loopw [9] (fun vi wr => ∃ (d : Nat) (x : Int) (tb : Tri) (lo hi : Int) (us : List Tri), vi = .int .i64 x ∧ x = 40 - (d : Int) ∧ d ≤ 81 ∧ RuE qs B E L S v F fk bd tf w gb gr gC go gf gB d tb lo hi us (rowQ (cO qs B F E L S) d) wr) (fun vi _ => (intOf vi + 41).toNat)
  case atStart => exact ⟨0, 40, tb0, 0, 0, _, rfl, rfl, Nat.zero_le _, unhide HS0⟩
  case round =>
    obtain ⟨d, x, tb, lo, hi, us, rfl, hx, hd, hE0⟩ := hrel
    clear HS0
    by_cases hlt : d < 81
    · obtain ⟨i, hie⟩ : ∃ i, 80 - d = i := ⟨_, rfl⟩
      have hxi : x = (i : Int) - 40 := by omega
      have hx1 : -40 ≤ x := by omega
      have hx2 : x ≤ 40 := by omega
      have hi80 : i ≤ 80 := by omega
      have hbs := (Sto.bst_in (pH qs B E L S) 80 d (by omega)).1
      have S0 : RuS w wr w.heap.size gb gr gC go gf gB v F E L S fk bd tf tb lo hi (((Sto.bst (pH qs B E L S) 80 d : Nat) : Int) - 40) ((pH qs B E L S) (Sto.bst (pH qs B E L S) 80 d)) us (rowQ (cO qs B F E L S) d) := hE0
      have HS := hide S0
      have HXI := hide hxi
      have HXD := hide hx
      have HI80 := hide hie
      have epr : prV qs B E L S x = (pH qs B E L S) i := by rw [hxi]; rfl
      have C1 := unhide HPR x wr ⟨hx1, hx2⟩ S0.sh S0.bh S0.row.bl
      rw [epr] at C1
      have HC1 := hide C1
      have HRB := hide (unhide HRP (Sto.bst (pH qs B E L S) 80 d) hbs)
      have HRI := hide (unhide HRP i hi80)
      have HF1 : Hid (RS ((F : Int) : Rat) 110000000) := unhide HRF
      have hEx : -40000 ≤ E * x ∧ E * x ≤ 40000 := by
        have hE := unhide HEB
        rcases Int.le_total 0 x with c | c
        · have := mulB hE.1 hE.2 c hx2; omega
        · have := mulB hE.1 hE.2 (show 0 ≤ -x by omega) (show -x ≤ 40 by omega)
          rw [Int.mul_neg] at this
          omega
      obtain ⟨p, hp⟩ : ∃ z, E * x = z := ⟨_, rfl⟩
      have f1 : IntKind.i64.wrap (E * x) = p := by rw [hp, IntKind.wrap_i64]; omega
      have f2 : IntKind.i64.wrap (x + 40) = (i : Int) := by rw [show x + 40 = (i : Int) by omega, IntKind.wrap_i64]; omega
      have f3 : IntKind.i64.wrap (x - 1) = x - 1 := by rw [IntKind.wrap_i64]; omega
      have f4 : (0 : Int) ≤ (i : Int) := by omega
      have f5 : (i : Int) < 81 := by omega
      have HWE : Hid (∀ W, Calls Tryz.prog 10 #[.int .i64 p] W fun e w' => ∃ v, e = .returned v ∧ RatIs w' v ((E * x : Int) : Rat) ∧ Below W.heap.size W w') := fun W => by rw [hp]; exact whole_any p (by omega) (by omega) W
      have HRE : Hid (RS ((E * x : Int) : Rat) 120000000) := (whole_RS (x := E * x) ⟨by omega, by omega⟩).mono (by omega)
      have HRQ : Hid ((rowQ (cO qs B F E L S) d).set i (cO qs B F E L S i) = rowQ (cO qs B F E L S) (d + 1)) := by show _ = _; rw [← hie]; exact rowQ_set _ hlt
      have HCST : Hid (∀ q, q = Sto.cst (pH qs B E L S) ((F : Int) : Rat) 80 i → q - ((E * x : Int) : Rat) = cO qs B F E L S i) := fun q hq => by rw [hq, hxi]; rfl
      have hNi : 80 - i = d := by omega
      have HCA : Hid ((pH qs B E L S) (Sto.bst (pH qs B E L S) 80 d) + ((F : Int) : Rat) < (pH qs B E L S) i → Sto.cst (pH qs B E L S) ((F : Int) : Rat) 80 i = (pH qs B E L S) (Sto.bst (pH qs B E L S) 80 d) + ((F : Int) : Rat)) := fun h => by unfold Sto.cst; rw [hNi, if_pos h]
      have HCB : Hid (¬ (pH qs B E L S) (Sto.bst (pH qs B E L S) 80 d) + ((F : Int) : Rat) < (pH qs B E L S) i → Sto.cst (pH qs B E L S) ((F : Int) : Rat) 80 i = (pH qs B E L S) i) := fun h => by unfold Sto.cst; rw [hNi, if_neg h]
      have HSMH := hide (smR ((unhide HRI).mono (show 110000000 ≤ 120000000 by omega)) (unhide HKJ))
      have HSMB := hide (smR ((unhide HRB).mono (show 110000000 ≤ 120000000 by omega)) (unhide HKJ))
      have rup : RS ((pH qs B E L S) (Sto.bst (pH qs B E L S) 80 d) + ((F : Int) : Rat)) 120000000 := ((unhide HRB).add (unhide HRF1)).mono (by omega)
      have HRU := hide rup
      have HSMU := hide (smR rup (unhide HKJ))
      have HK1 : Hid (110000000 + 110000000 + 1 ≤ KK) := by have := unhide HKK; show _ ≤ _; omega
      have hcond : (-40 : Int) ≤ x := hx1
      clear hE0 S0 hx hxi hie epr C1 hEx hp hNi rup hbs hd
      go_wp2_with fail
      refine (unhide HC1).mono ?_
      rintro e w1 ⟨th, rfl, hr1, hb1⟩
      have S1 := (unhide HS).keep hb1
      have H1 := GoalAt.new (y := x) hr1
      have a1 := alloc_below w1 (.cells #[.int .i64 x, .bool th.s, .slice th.a1 th.n1 th.c1, .slice th.a2 th.n2 th.c2] 74)
      have l1 := (unhide HS).be
      have hgBlt : gB < w1.heap.size := Nat.lt_of_lt_of_le (Array.getElem?_eq_some_iff.1 l1.1).1 hb1.size
      obtain ⟨W1, hW1⟩ : ∃ W, w1.alloc (.cells #[.int .i64 x, .bool th.s, .slice th.a1 th.n1 th.c1, .slice th.a2 th.n2 th.c2] 74) = W := ⟨_, rfl⟩
      obtain ⟨gh, s1⟩ : ∃ g, w1.heap.size = g := ⟨_, rfl⟩
      have z1 : W1.heap.size = gh + 1 := by rw [← hW1, alloc_size, s1]
      rw [hW1] at H1 a1
      rw [s1] at H1 hgBlt
      have a2 := alloc_below W1 (.cells #[.int .i64 x, .bool th.s, .slice th.a1 th.n1 th.c1, .slice th.a2 th.n2 th.c2] 74)
      have K2 := GoalAt.new (y := x) (hr1.below a1)
      obtain ⟨W2, hW2⟩ : ∃ W, W1.alloc (.cells #[.int .i64 x, .bool th.s, .slice th.a1 th.n1 th.c1, .slice th.a2 th.n2 th.c2] 74) = W := ⟨_, rfl⟩
      obtain ⟨gk, s2⟩ : ∃ g, W1.heap.size = g := ⟨_, rfl⟩
      have z2 : gk = gh + 1 := by rw [← s2, z1]
      rw [hW2] at K2 a2
      rw [s2] at K2
      have S2 := (S1.keep a1).keep a2
      have H2 := H1.keep a2
      obtain ⟨hc0, hc1, hc2, hc3⟩ := H1.cells
      obtain ⟨_, bc1, bc2, bc3⟩ := S2.be.cells
      obtain ⟨fc0, fc1, fc2⟩ := S2.fx.cells _ (Below.refl _ _)
      have C2 := hide (addR_any _ _ _ _ W2 S2.be.2 S2.fx.2 _ (unhide HRB) (unhide HF1) (unhide HK1))
      have HS2 := hide S2
      have HH2 := hide H2
      have HK2 := hide K2
      have HGB := hide hgBlt
      have HZ2 := hide z2
      simp only [Tri.val] at C2
      clear hr1 hb1 S1 H1 a1 a2 l1 hgBlt z1 z2 K2 S2 H2 HC1 HS
      go_wp2_with fail
      clear hW1 hW2 s1 s2 hc0 hc1 hc2 hc3 bc1 bc2 bc3 fc0 fc1 fc2
      refine (unhide C2).mono ?_
      rintro e w3 ⟨v3, rfl, hv3, hb3⟩
      obtain ⟨tu, rfl, hr3⟩ := tri_of hv3
      simp only [Tri.val]
      have a3 := alloc_below w3 (.cells #[.bool tu.s, .slice tu.a1 tu.n1 tu.c1, .slice tu.a2 tu.n2 tu.c2] 40)
      have U3 := BoxIs.new hr3
      have hkl : gk < w3.heap.size := Nat.lt_of_lt_of_le (Array.getElem?_eq_some_iff.1 (unhide HK2).1).1 hb3.size
      obtain ⟨W3, hW3⟩ : ∃ W, w3.alloc (.cells #[.bool tu.s, .slice tu.a1 tu.n1 tu.c1, .slice tu.a2 tu.n2 tu.c2] 40) = W := ⟨_, rfl⟩
      obtain ⟨gu, s3⟩ : ∃ g, w3.heap.size = g := ⟨_, rfl⟩
      rw [hW3] at a3 U3
      rw [s3] at U3 hkl
      have hb33 := below_step hb3 a3
      have S3 := (unhide HS2).keep hb33
      have H3 := (unhide HH2).keep hb33
      have K3 := (unhide HK2).keep hb33
      obtain ⟨_, hc1, hc2, hc3⟩ := H3.cells
      obtain ⟨uc0, uc1, uc2⟩ := U3.cells _ (Below.refl _ _)
      have C3 := hide (cmpR_any _ _ _ _ W3 U3.2 H3.2 (unhide HSMU).1 (unhide HSMH).1 (unhide HSMU).2 (unhide HSMH).2)
      obtain ⟨sg, hsg⟩ : ∃ s, Wd.sg (((pH qs B E L S) (Sto.bst (pH qs B E L S) 80 d) + ((F : Int) : Rat)).num * ((pH qs B E L S) i).den) (((pH qs B E L S) i).num * ((pH qs B E L S) (Sto.bst (pH qs B E L S) 80 d) + ((F : Int) : Rat)).den) = s := ⟨_, rfl⟩
      rw [hsg] at C3
      have HSG := hide hsg
      have HS3 := hide S3
      have HH3 := hide H3
      have HK3 := hide K3
      have HU3 := hide U3
      have HNN : Hid (gB < gh ∧ gh < gk ∧ gk < gu) := ⟨unhide HGB, by have := unhide HZ2; omega, hkl⟩
      simp only [Tri.val] at C3
      clear hv3 hr3 hb3 a3 U3 hkl hb33 S3 H3 K3 C2 hsg HS2 HH2 HK2 HGB HZ2
      go_wp2_with fail
      clear hW3 s3
      refine (unhide C3).mono ?_
      rintro e w4 ⟨rfl, hb4⟩
      have S4 := (unhide HS3).keep hb4
      have H4 := (unhide HH3).keep hb4
      have K4 := (unhide HK3).keep hb4
      have U4 := (unhide HU3).keep hb4
      have HNE : Hid (gk ≠ gC ∧ gk ≠ go) := by
        have n := unhide HNN
        have r := unhide HOR
        exact ⟨by have := r.o4; have := r.o5; have := r.o6; omega, by have := r.o5; have := r.o6; omega⟩
      have HNB : Hid (gk ≠ gB) := by have n := unhide HNN; show _ ≠ _; omega
      clear hb4 C3 HS3 HH3 HK3 HU3 hc1 hc2 hc3 uc0 uc1 uc2
      by_cases hsl : sg < 0
      · have hlt2 : (pH qs B E L S) (Sto.bst (pH qs B E L S) 80 d) + ((F : Int) : Rat) < (pH qs B E L S) i := cmp_neg.1 (by rw [unhide HSG]; exact hsl)
        have HCE := hide (unhide HCST _ (unhide HCA hlt2).symm)
        have HRC := HRU
        obtain ⟨bc0, _, _, _⟩ := S4.be.cells
        obtain ⟨uc0, uc1, uc2⟩ := U4.cells _ (Below.refl _ _)
        obtain ⟨kc0, kc1, kc2, kc3⟩ := K4.cells
        obtain ⟨kf0, kf1, kf2, kf3⟩ := K4.free
        have T5 := K4.tch (.int .i64 (((Sto.bst (pH qs B E L S) 80 d : Nat) : Int) - 40)) (.bool tu.s) (.slice tu.a1 tu.n1 tu.c1) (.slice tu.a2 tu.n2 tu.c2)
        have hle5 : w.heap.size ≤ gk := by have n := unhide HNN; have r := unhide HOR; have := r.o0; have := r.o1; have := r.o2; have := r.o3; have := r.o4; have := r.o5; have := r.o6; omega
        have nn : w.heap.size ≠ gk ∧ gb ≠ gk ∧ gr ≠ gk ∧ gC ≠ gk ∧ go ≠ gk ∧ gf ≠ gk ∧ gB ≠ gk ∧ gh ≠ gk := by have n := unhide HNN; have r := unhide HOR; have := r.o0; have := r.o1; have := r.o2; have := r.o3; have := r.o4; have := r.o5; have := r.o6; omega
        have S5 := S4.touch T5 (set4_below S4.row.bl hle5) nn.1 nn.2.1 nn.2.2.1 nn.2.2.2.1 nn.2.2.2.2.1 nn.2.2.2.2.2.1 nn.2.2.2.2.2.2.1
        have H5 := T5.goal H4 nn.2.2.2.2.2.2.2
        have K5 := K4.set (y' := ((Sto.bst (pH qs B E L S) 80 d : Nat) : Int) - 40) U4.2
        unfold set4 at S5 H5 K5
        obtain ⟨ca, hca⟩ : ∃ c, ((Sto.bst (pH qs B E L S) 80 d : Nat) : Int) - 40 = c := ⟨_, rfl⟩
        rw [hca] at S5 H5 K5 bc0
        obtain ⟨W5, hW5⟩ : ∃ W, (((w4.setCell ⟨gk, 0, none⟩ (.int .i64 ca)).setCell ⟨gk, 1, none⟩ (.bool tu.s)).setCell ⟨gk, 2, none⟩ (.slice tu.a1 tu.n1 tu.c1)).setCell ⟨gk, 3, none⟩ (.slice tu.a2 tu.n2 tu.c2) = W := ⟨_, rfl⟩
        rw [hW5] at S5 H5 K5
        rw [← hca] at S5
        have HS5 := hide S5
        have HH5 := hide H5
        have HK5 := hide K5
        have HCAV := hide hca
        clear S4 H4 K4 U4 T5 hle5 nn S5 H5 K5 hlt2 hca HCA HCB HCST
        have h5 := unhide HH5
        have s5 := (unhide HS5).be
        obtain ⟨_, hc1, hc2, hc3⟩ := h5.cells
        obtain ⟨_, bc1, bc2, bc3⟩ := s5.cells
        have C4 := hide (cmpR_any _ _ _ _ W5 h5.2 s5.2 (unhide HSMH).1 (unhide HSMB).1 (unhide HSMH).2 (unhide HSMB).2)
        obtain ⟨sg2, hsg2⟩ : ∃ s, Wd.sg (((pH qs B E L S) i).num * ((pH qs B E L S) (Sto.bst (pH qs B E L S) 80 d)).den) (((pH qs B E L S) (Sto.bst (pH qs B E L S) 80 d)).num * ((pH qs B E L S) i).den) = s := ⟨_, rfl⟩
        rw [hsg2] at C4
        have HSG2 := hide hsg2
        simp only [Tri.val] at C4
        clear h5 s5 hsg2
        go_wp2_with fail
        refine (unhide C4).mono ?_
        rintro e w6 ⟨rfl, hb6⟩
        have HS6 := hide ((unhide HS5).keep hb6)
        have HH6 := hide ((unhide HH5).keep hb6)
        have HK6 := hide ((unhide HK5).keep hb6)
        clear C4 hb6 hc1 hc2 hc3 bc1 bc2 bc3 HS5 HH5 HK5 bc0 uc0 uc1 uc2 kc0 kc1 kc2 kc3 kf0 kf1 kf2 kf3 hW5
        by_cases hle : sg2 ≤ 0
        · have hbq : (pH qs B E L S) i ≤ (pH qs B E L S) (Sto.bst (pH qs B E L S) 80 d) := by
            rcases Decidable.em ((pH qs B E L S) i ≤ (pH qs B E L S) (Sto.bst (pH qs B E L S) 80 d)) with c | c
            · exact c
            · have := cmp_pos.2 (show (pH qs B E L S) (Sto.bst (pH qs B E L S) 80 d) < (pH qs B E L S) i by grind)
              rw [unhide HSG2] at this
              omega
          obtain ⟨hc0, hc1, hc2, hc3⟩ := (unhide HH6).cells
          obtain ⟨bc0, bc1, bc2, bc3⟩ := (unhide HS6).be.cells
          obtain ⟨bf0, bf1, bf2, bf3⟩ := (unhide HS6).be.free
          have S7 := (unhide HS6).setB (unhide HOR) (y' := x) (unhide HH6).2
          have K7 := ((unhide HS6).be.tch (.int .i64 x) (.bool th.s) (.slice th.a1 th.n1 th.c1) (.slice th.a2 th.n2 th.c2)).goal (unhide HK6) (unhide HNB)
          unfold set4 at S7 K7
          obtain ⟨W7, hW7⟩ : ∃ W, (((w6.setCell ⟨gB, 0, none⟩ (.int .i64 x)).setCell ⟨gB, 1, none⟩ (.bool th.s)).setCell ⟨gB, 2, none⟩ (.slice th.a1 th.n1 th.c1)).setCell ⟨gB, 3, none⟩ (.slice th.a2 th.n2 th.c2) = W := ⟨_, rfl⟩
          rw [hW7] at S7 K7
          have HS7 := hide S7
          have HK7 := hide K7
          have HFN : Hid (∀ {lo' hi' : Int} {us' : List Tri} {cs' : List Rat} {WW : World}, RuS w WW w.heap.size gb gr gC go gf gB v F E L S fk bd tf th lo' hi' x ((pH qs B E L S) i) us' cs' → RuE qs B E L S v F fk bd tf w gb gr gC go gf gB (d + 1) th lo' hi' us' cs' WW) := by
            intro lo' hi' us' cs' WW h
            have e : Sto.bst (pH qs B E L S) 80 (d + 1) = i := by
              show (if (pH qs B E L S) (80 - d) ≤ (pH qs B E L S) (Sto.bst (pH qs B E L S) 80 d) then 80 - d else Sto.bst (pH qs B E L S) 80 d) = i
              rw [unhide HI80, if_pos hbq]
            unfold RuE
            rw [e, ← unhide HXI]
            exact h
          clear S7 K7 HS6 HH6 HK6 hbq
          go_wp2_with fail
          clear hc0 hc1 hc2 hc3 bc0 bc1 bc2 bc3 bf0 bf1 bf2 bf3 hW7
          as_aux_lemma =>
            have HCC : Hid (∀ W', Below W7.heap.size W7 W' → (fun w' : World => w'.cell? ⟨go, 2, none⟩ = some (.slice (some ⟨gC, 0, none⟩) 81 81) ∧ (w'.cell? ⟨gk, 1, none⟩ = some (.bool tu.s) ∧ w'.cell? ⟨gk, 2, none⟩ = some (.slice tu.a1 tu.n1 tu.c1) ∧ w'.cell? ⟨gk, 3, none⟩ = some (.slice tu.a2 tu.n2 tu.c2)) ∧ w'.cell? ⟨w.heap.size, 2, none⟩ = some (.int .i64 E)) W') := fun W' hW' => by
              have k1 := (unhide HS7).keep hW'
              have k2 := (unhide HK7).keep hW'
              exact ⟨k1.outs.1.2.2, ⟨k2.cells.2.1, k2.cells.2.2.1, k2.cells.2.2.2⟩, k1.sh.cells.2.2.1⟩
            refine wp_region_till (fun w' : World => w'.cell? ⟨go, 2, none⟩ = some (.slice (some ⟨gC, 0, none⟩) 81 81) ∧ (w'.cell? ⟨gk, 1, none⟩ = some (.bool tu.s) ∧ w'.cell? ⟨gk, 2, none⟩ = some (.slice tu.a1 tu.n1 tu.c1) ∧ w'.cell? ⟨gk, 3, none⟩ = some (.slice tu.a2 tu.n2 tu.c2)) ∧ w'.cell? ⟨w.heap.size, 2, none⟩ = some (.int .i64 E)) 13 (by kernel_rfl) ?_
            have bd0 : Below W7.heap.size W7 W7.drew := (Below.refl _ _).drew
            have hC0 : (fun w' : World => w'.cell? ⟨go, 2, none⟩ = some (.slice (some ⟨gC, 0, none⟩) 81 81) ∧ (w'.cell? ⟨gk, 1, none⟩ = some (.bool tu.s) ∧ w'.cell? ⟨gk, 2, none⟩ = some (.slice tu.a1 tu.n1 tu.c1) ∧ w'.cell? ⟨gk, 3, none⟩ = some (.slice tu.a2 tu.n2 tu.c2)) ∧ w'.cell? ⟨w.heap.size, 2, none⟩ = some (.int .i64 E)) W7.drew := unhide HCC _ bd0
            refine wpTill_pure (i := 0) (v := ?_) rfl (by kernel_rfl) (by kernel_rfl) (by kernel_rfl) (by kernel_rfl) (fun _ _ _ h => h) (Or.inl ⟨by rfl, ?_⟩) (fun _ => hC0) ?_
            rotate_left
            · intro w hSw; clear hSw; go_simp; (try with_reducible rfl)
            (try simp only [List.getElem_toArray, List.getElem_cons_succ, List.getElem_cons_zero])
            (try simp only [Act.put, List.setIfInBounds_toArray, List.set_cons_zero, List.set_cons_succ])
            refine wpTill_take (i := 1) (v := ?_) rfl (by kernel_rfl) (by kernel_rfl) (by kernel_rfl) (by kernel_rfl) (by kernel_rfl) (by kernel_rfl) (fun _ _ _ h => h) (Or.inl ⟨by rfl, ?_⟩) hC0 ?_
            rotate_left
            · intro w hSw; (try dsimp only at hSw); obtain ⟨z0, ⟨z1, z2, z3⟩, z4⟩ := hSw; go_simp; (try with_reducible rfl)
            (try simp only [List.getElem_toArray, List.getElem_cons_succ, List.getElem_cons_zero])
            (try simp only [Act.put, List.setIfInBounds_toArray, List.set_cons_zero, List.set_cons_succ])
            refine wpTill_pure (i := 2) (v := ?_) rfl (by kernel_rfl) (by kernel_rfl) (by kernel_rfl) (by kernel_rfl) (fun _ _ _ h => h) (Or.inl ⟨by rfl, ?_⟩) (fun _ => hC0) ?_
            rotate_left
            · intro w hSw; clear hSw; go_simp; (try with_reducible rfl)
            (try simp only [List.getElem_toArray, List.getElem_cons_succ, List.getElem_cons_zero])
            (try simp only [Act.put, List.setIfInBounds_toArray, List.set_cons_zero, List.set_cons_succ])
            refine wpTill_pure (i := 3) (v := ?_) rfl (by kernel_rfl) (by kernel_rfl) (by kernel_rfl) (by kernel_rfl) (fun _ _ _ h => h) (Or.inl ⟨by rfl, ?_⟩) (fun _ => hC0) ?_
            rotate_left
            · intro w hSw; clear hSw; go_simp; (try with_reducible rfl)
            (try simp only [List.getElem_toArray, List.getElem_cons_succ, List.getElem_cons_zero])
            (try simp only [Act.put, List.setIfInBounds_toArray, List.set_cons_zero, List.set_cons_succ])
            refine wpTill_pure (i := 4) (v := ?_) rfl (by kernel_rfl) (by kernel_rfl) (by kernel_rfl) (by kernel_rfl) (fun _ _ _ h => h) (Or.inl ⟨by rfl, ?_⟩) (fun _ => hC0) ?_
            rotate_left
            · intro w hSw; clear hSw; go_simp; (try with_reducible rfl)
            (try simp only [List.getElem_toArray, List.getElem_cons_succ, List.getElem_cons_zero])
            (try simp only [Act.put, List.setIfInBounds_toArray, List.set_cons_zero, List.set_cons_succ])
            refine wpTill_take (i := 5) (v := ?_) rfl (by kernel_rfl) (by kernel_rfl) (by kernel_rfl) (by kernel_rfl) (by kernel_rfl) (by kernel_rfl) (fun _ _ _ h => h) (Or.inl ⟨by rfl, ?_⟩) hC0 ?_
            rotate_left
            · intro w hSw; (try dsimp only at hSw); obtain ⟨z0, ⟨z1, z2, z3⟩, z4⟩ := hSw; go_simp; (try with_reducible rfl)
            (try simp only [List.getElem_toArray, List.getElem_cons_succ, List.getElem_cons_zero])
            (try simp only [Act.put, List.setIfInBounds_toArray, List.set_cons_zero, List.set_cons_succ])
            refine wpTill_pure (i := 6) (v := ?_) rfl (by kernel_rfl) (by kernel_rfl) (by kernel_rfl) (by kernel_rfl) (fun _ _ _ h => h) (Or.inl ⟨by rfl, ?_⟩) (fun _ => hC0) ?_
            rotate_left
            · intro w hSw; clear hSw; go_simp; (try with_reducible rfl)
            (try simp only [List.getElem_toArray, List.getElem_cons_succ, List.getElem_cons_zero])
            (try simp only [Act.put, List.setIfInBounds_toArray, List.set_cons_zero, List.set_cons_succ])
            refine wpTill_take (i := 7) (v := ?_) rfl (by kernel_rfl) (by kernel_rfl) (by kernel_rfl) (by kernel_rfl) (by kernel_rfl) (by kernel_rfl) (fun _ _ _ h => h) (Or.inl ⟨by rfl, ?_⟩) hC0 ?_
            rotate_left
            · intro w hSw; (try dsimp only at hSw); obtain ⟨z0, ⟨z1, z2, z3⟩, z4⟩ := hSw; go_simp; (try with_reducible rfl)
            (try simp only [List.getElem_toArray, List.getElem_cons_succ, List.getElem_cons_zero])
            (try simp only [Act.put, List.setIfInBounds_toArray, List.set_cons_zero, List.set_cons_succ])
            refine wpTill_pure (i := 8) (v := ?_) rfl (by kernel_rfl) (by kernel_rfl) (by kernel_rfl) (by kernel_rfl) (fun _ _ _ h => h) (Or.inl ⟨by rfl, ?_⟩) (fun _ => hC0) ?_
            rotate_left
            · intro w hSw; clear hSw; go_simp; (try with_reducible rfl)
            (try simp only [List.getElem_toArray, List.getElem_cons_succ, List.getElem_cons_zero])
            (try simp only [Act.put, List.setIfInBounds_toArray, List.set_cons_zero, List.set_cons_succ])
            refine wpTill_pure (i := 9) (v := ?_) rfl (by kernel_rfl) (by kernel_rfl) (by kernel_rfl) (by kernel_rfl) (fun _ _ _ h => h) (Or.inl ⟨by rfl, ?_⟩) (fun _ => hC0) ?_
            rotate_left
            · intro w hSw; clear hSw; go_simp; (try with_reducible rfl)
            (try simp only [List.getElem_toArray, List.getElem_cons_succ, List.getElem_cons_zero])
            (try simp only [Act.put, List.setIfInBounds_toArray, List.set_cons_zero, List.set_cons_succ])
            refine wpTill_one (k := 10) (by kernel_rfl) rfl (fun K hK => ?_)
            (try simp only [List.getElem_toArray, List.getElem_cons_succ, List.getElem_cons_zero])
            go_simp
            refine (unhide HWE _).mono ?_
            rintro e xw_1 ⟨xv_1, rfl, hv_1, hb_1⟩
            have cc_1 := below_step bd0 hb_1
            have hC_1 : (fun w' : World => w'.cell? ⟨go, 2, none⟩ = some (.slice (some ⟨gC, 0, none⟩) 81 81) ∧ (w'.cell? ⟨gk, 1, none⟩ = some (.bool tu.s) ∧ w'.cell? ⟨gk, 2, none⟩ = some (.slice tu.a1 tu.n1 tu.c1) ∧ w'.cell? ⟨gk, 3, none⟩ = some (.slice tu.a2 tu.n2 tu.c2)) ∧ w'.cell? ⟨w.heap.size, 2, none⟩ = some (.int .i64 E)) xw_1 := unhide HCC _ cc_1
            refine hK.out _ _ (fun _ => hC_1) ?_
            clear hK K
            (try simp only [Act.put, List.setIfInBounds_toArray, List.set_cons_zero, List.set_cons_succ])
            refine wpTill_one (k := 11) (by kernel_rfl) rfl (fun K hK => ?_)
            (try simp only [List.getElem_toArray, List.getElem_cons_succ, List.getElem_cons_zero])
            go_simp
            refine (subR_any _ _ _ _ _ ((unhide HK7).2.below cc_1) hv_1 _ (unhide HRC) (unhide HRE) (unhide HKK)).mono ?_
            rintro e xw_2 ⟨xv_2, rfl, hv_2, hb_2⟩
            have cc_2 := below_step cc_1 hb_2
            have hC_2 : (fun w' : World => w'.cell? ⟨go, 2, none⟩ = some (.slice (some ⟨gC, 0, none⟩) 81 81) ∧ (w'.cell? ⟨gk, 1, none⟩ = some (.bool tu.s) ∧ w'.cell? ⟨gk, 2, none⟩ = some (.slice tu.a1 tu.n1 tu.c1) ∧ w'.cell? ⟨gk, 3, none⟩ = some (.slice tu.a2 tu.n2 tu.c2)) ∧ w'.cell? ⟨w.heap.size, 2, none⟩ = some (.int .i64 E)) xw_2 := unhide HCC _ cc_2
            refine hK.out _ _ (fun _ => hC_2) ?_
            clear hK K
            (try simp only [Act.put, List.setIfInBounds_toArray, List.set_cons_zero, List.set_cons_succ])
            refine wpTill_pure (i := 12) (v := ?_) rfl (by kernel_rfl) (by kernel_rfl) (by kernel_rfl) (by kernel_rfl) (fun _ _ _ h => h) (Or.inl ⟨by rfl, ?_⟩) (fun _ => hC_2) ?_
            rotate_left
            · intro w hSw; clear hSw; go_simp; (try with_reducible rfl)
            (try simp only [List.getElem_toArray, List.getElem_cons_succ, List.getElem_cons_zero])
            (try simp only [Act.put, List.setIfInBounds_toArray, List.set_cons_zero, List.set_cons_succ])
            obtain ⟨t8, rfl, r8⟩ := tri_of hv_2
            rw [unhide HCE] at r8
            simp only [Tri.val]
            have S8 := (unhide HS7).keep cc_2
            have K8 := (unhide HK7).keep cc_2
            have ⟨⟨y0, y1, y2⟩, l0, l1, l2⟩ := S8.row.cells i (by rw [S8.len]; omega)
            have F8 := S8.setR (unhide HOR) (show i < 81 by omega) r8
            rw [unhide HRQ] at F8
            have G8 := (row_tch S8.row (i * 3) (i * 3 + 1) (i * 3 + 2) (.bool t8.s) (.slice t8.a1 t8.n1 t8.c1) (.slice t8.a2 t8.n2 t8.c2)).goal K8 (unhide HNE).1
            obtain ⟨W8, hW8⟩ : ∃ W, ((xw_2.setCell ⟨gC, i * 3, none⟩ (.bool t8.s)).setCell ⟨gC, i * 3 + 1, none⟩ (.slice t8.a1 t8.n1 t8.c1)).setCell ⟨gC, i * 3 + 2, none⟩ (.slice t8.a2 t8.n2 t8.c2) = W := ⟨_, rfl⟩
            rw [hW8] at F8 G8
            have HF8 := hide F8
            have HG8 := hide G8
            clear S8 K8 F8 G8 r8 hv_1 hv_2
            refine wpTill_one (k := 13) (by kernel_rfl) rfl (fun K hK => ?_)
            (try simp only [List.getElem_toArray, List.getElem_cons_succ, List.getElem_cons_zero])
            go_simp
            refine hK.out _ _ (fun h => absurd (h.symm.trans (by kernel_rfl)) Bool.false_ne_true) ?_
            clear hK K
            (try simp only [Act.put, List.setIfInBounds_toArray, List.set_cons_zero, List.set_cons_succ])
            refine wpTill_done (by kernel_rfl) ?_ _
            clear hC0 hC_1 hC_2 cc_1 cc_2 bd0 hb_1 hb_2 HCC l0 l1 l2 y0 y1 y2 hW8
            have k0 := (unhide HG8).cells.1
            have o1 := (unhide HF8).outs.1.2.1
            have o2 := (unhide HF8).outs.2.2.1
            have F9 := (unhide HF8).setHi (unhide HOR) ca
            have G9 := (out_tch (unhide HF8) 1 (.int .i64 ca)).goal (unhide HG8) (unhide HNE).2
            obtain ⟨W9, hW9⟩ : ∃ W, W8.setCell ⟨go, 1, none⟩ (.int .i64 ca) = W := ⟨_, rfl⟩
            rw [hW9] at F9 G9
            have HF9 := hide F9
            have k9 := G9.cells.1
            have o3 := F9.outs.1.1
            have o4 := F9.outs.2.1
            clear F9 G9
            by_cases hcx : ca = x
            · have e1 : (ca == x) = true := by rw [beq_iff_eq]; exact hcx
              have F10 := (unhide HF9).setLo (unhide HOR) x
              have HF10 := hide F10
              have HCX := hide hcx
              clear F10 hcx
              go_wp2
              exact ⟨⟨d + 1, x - 1, th, _, _, _, rfl, by have := unhide HXD; omega, by omega, unhide HFN (unhide HF10)⟩, by have := unhide HXD; simp [intOf]; omega⟩
            · have e1 : (ca == x) = false := by rw [beq_eq_false_iff_ne]; exact hcx
              clear hcx
              go_wp2
              exact ⟨⟨d + 1, x - 1, th, _, _, _, rfl, by have := unhide HXD; omega, by omega, unhide HFN (unhide HF9)⟩, by have := unhide HXD; simp [intOf]; omega⟩
        · have hbq : ¬ (pH qs B E L S) i ≤ (pH qs B E L S) (Sto.bst (pH qs B E L S) 80 d) := fun h => by
            have h1 : ¬ (pH qs B E L S) (Sto.bst (pH qs B E L S) 80 d) < (pH qs B E L S) i := by grind
            have h2 : ¬ 0 < sg2 := fun h3 => h1 (cmp_pos.1 (by rw [unhide HSG2]; exact h3))
            omega
          have HS7 := HS6
          have HK7 := HK6
          have HFN : Hid (∀ {lo' hi' : Int} {us' : List Tri} {cs' : List Rat} {WW : World}, RuS w WW w.heap.size gb gr gC go gf gB v F E L S fk bd tf tb lo' hi' (((Sto.bst (pH qs B E L S) 80 d : Nat) : Int) - 40) ((pH qs B E L S) (Sto.bst (pH qs B E L S) 80 d)) us' cs' → RuE qs B E L S v F fk bd tf w gb gr gC go gf gB (d + 1) tb lo' hi' us' cs' WW) := by
            intro lo' hi' us' cs' WW h
            have e : Sto.bst (pH qs B E L S) 80 (d + 1) = Sto.bst (pH qs B E L S) 80 d := by
              show (if (pH qs B E L S) (80 - d) ≤ (pH qs B E L S) (Sto.bst (pH qs B E L S) 80 d) then 80 - d else Sto.bst (pH qs B E L S) 80 d) = _
              rw [unhide HI80, if_neg hbq]
            unfold RuE
            rw [e]
            exact h
          clear HS6 HH6 HK6 hbq
          go_wp2_with fail
          as_aux_lemma =>
            have HCC : Hid (∀ W', Below w6.heap.size w6 W' → (fun w' : World => w'.cell? ⟨go, 2, none⟩ = some (.slice (some ⟨gC, 0, none⟩) 81 81) ∧ (w'.cell? ⟨gk, 1, none⟩ = some (.bool tu.s) ∧ w'.cell? ⟨gk, 2, none⟩ = some (.slice tu.a1 tu.n1 tu.c1) ∧ w'.cell? ⟨gk, 3, none⟩ = some (.slice tu.a2 tu.n2 tu.c2)) ∧ w'.cell? ⟨w.heap.size, 2, none⟩ = some (.int .i64 E)) W') := fun W' hW' => by
              have k1 := (unhide HS7).keep hW'
              have k2 := (unhide HK7).keep hW'
              exact ⟨k1.outs.1.2.2, ⟨k2.cells.2.1, k2.cells.2.2.1, k2.cells.2.2.2⟩, k1.sh.cells.2.2.1⟩
            refine wp_region_till (fun w' : World => w'.cell? ⟨go, 2, none⟩ = some (.slice (some ⟨gC, 0, none⟩) 81 81) ∧ (w'.cell? ⟨gk, 1, none⟩ = some (.bool tu.s) ∧ w'.cell? ⟨gk, 2, none⟩ = some (.slice tu.a1 tu.n1 tu.c1) ∧ w'.cell? ⟨gk, 3, none⟩ = some (.slice tu.a2 tu.n2 tu.c2)) ∧ w'.cell? ⟨w.heap.size, 2, none⟩ = some (.int .i64 E)) 13 (by kernel_rfl) ?_
            have bd0 : Below w6.heap.size w6 w6.drew := (Below.refl _ _).drew
            have hC0 : (fun w' : World => w'.cell? ⟨go, 2, none⟩ = some (.slice (some ⟨gC, 0, none⟩) 81 81) ∧ (w'.cell? ⟨gk, 1, none⟩ = some (.bool tu.s) ∧ w'.cell? ⟨gk, 2, none⟩ = some (.slice tu.a1 tu.n1 tu.c1) ∧ w'.cell? ⟨gk, 3, none⟩ = some (.slice tu.a2 tu.n2 tu.c2)) ∧ w'.cell? ⟨w.heap.size, 2, none⟩ = some (.int .i64 E)) w6.drew := unhide HCC _ bd0
            refine wpTill_pure (i := 0) (v := ?_) rfl (by kernel_rfl) (by kernel_rfl) (by kernel_rfl) (by kernel_rfl) (fun _ _ _ h => h) (Or.inl ⟨by rfl, ?_⟩) (fun _ => hC0) ?_
            rotate_left
            · intro w hSw; clear hSw; go_simp; (try with_reducible rfl)
            (try simp only [List.getElem_toArray, List.getElem_cons_succ, List.getElem_cons_zero])
            (try simp only [Act.put, List.setIfInBounds_toArray, List.set_cons_zero, List.set_cons_succ])
            refine wpTill_take (i := 1) (v := ?_) rfl (by kernel_rfl) (by kernel_rfl) (by kernel_rfl) (by kernel_rfl) (by kernel_rfl) (by kernel_rfl) (fun _ _ _ h => h) (Or.inl ⟨by rfl, ?_⟩) hC0 ?_
            rotate_left
            · intro w hSw; (try dsimp only at hSw); obtain ⟨z0, ⟨z1, z2, z3⟩, z4⟩ := hSw; go_simp; (try with_reducible rfl)
            (try simp only [List.getElem_toArray, List.getElem_cons_succ, List.getElem_cons_zero])
            (try simp only [Act.put, List.setIfInBounds_toArray, List.set_cons_zero, List.set_cons_succ])
            refine wpTill_pure (i := 2) (v := ?_) rfl (by kernel_rfl) (by kernel_rfl) (by kernel_rfl) (by kernel_rfl) (fun _ _ _ h => h) (Or.inl ⟨by rfl, ?_⟩) (fun _ => hC0) ?_
            rotate_left
            · intro w hSw; clear hSw; go_simp; (try with_reducible rfl)
            (try simp only [List.getElem_toArray, List.getElem_cons_succ, List.getElem_cons_zero])
            (try simp only [Act.put, List.setIfInBounds_toArray, List.set_cons_zero, List.set_cons_succ])
            refine wpTill_pure (i := 3) (v := ?_) rfl (by kernel_rfl) (by kernel_rfl) (by kernel_rfl) (by kernel_rfl) (fun _ _ _ h => h) (Or.inl ⟨by rfl, ?_⟩) (fun _ => hC0) ?_
            rotate_left
            · intro w hSw; clear hSw; go_simp; (try with_reducible rfl)
            (try simp only [List.getElem_toArray, List.getElem_cons_succ, List.getElem_cons_zero])
            (try simp only [Act.put, List.setIfInBounds_toArray, List.set_cons_zero, List.set_cons_succ])
            refine wpTill_pure (i := 4) (v := ?_) rfl (by kernel_rfl) (by kernel_rfl) (by kernel_rfl) (by kernel_rfl) (fun _ _ _ h => h) (Or.inl ⟨by rfl, ?_⟩) (fun _ => hC0) ?_
            rotate_left
            · intro w hSw; clear hSw; go_simp; (try with_reducible rfl)
            (try simp only [List.getElem_toArray, List.getElem_cons_succ, List.getElem_cons_zero])
            (try simp only [Act.put, List.setIfInBounds_toArray, List.set_cons_zero, List.set_cons_succ])
            refine wpTill_take (i := 5) (v := ?_) rfl (by kernel_rfl) (by kernel_rfl) (by kernel_rfl) (by kernel_rfl) (by kernel_rfl) (by kernel_rfl) (fun _ _ _ h => h) (Or.inl ⟨by rfl, ?_⟩) hC0 ?_
            rotate_left
            · intro w hSw; (try dsimp only at hSw); obtain ⟨z0, ⟨z1, z2, z3⟩, z4⟩ := hSw; go_simp; (try with_reducible rfl)
            (try simp only [List.getElem_toArray, List.getElem_cons_succ, List.getElem_cons_zero])
            (try simp only [Act.put, List.setIfInBounds_toArray, List.set_cons_zero, List.set_cons_succ])
            refine wpTill_pure (i := 6) (v := ?_) rfl (by kernel_rfl) (by kernel_rfl) (by kernel_rfl) (by kernel_rfl) (fun _ _ _ h => h) (Or.inl ⟨by rfl, ?_⟩) (fun _ => hC0) ?_
            rotate_left
            · intro w hSw; clear hSw; go_simp; (try with_reducible rfl)
            (try simp only [List.getElem_toArray, List.getElem_cons_succ, List.getElem_cons_zero])
            (try simp only [Act.put, List.setIfInBounds_toArray, List.set_cons_zero, List.set_cons_succ])
            refine wpTill_take (i := 7) (v := ?_) rfl (by kernel_rfl) (by kernel_rfl) (by kernel_rfl) (by kernel_rfl) (by kernel_rfl) (by kernel_rfl) (fun _ _ _ h => h) (Or.inl ⟨by rfl, ?_⟩) hC0 ?_
            rotate_left
            · intro w hSw; (try dsimp only at hSw); obtain ⟨z0, ⟨z1, z2, z3⟩, z4⟩ := hSw; go_simp; (try with_reducible rfl)
            (try simp only [List.getElem_toArray, List.getElem_cons_succ, List.getElem_cons_zero])
            (try simp only [Act.put, List.setIfInBounds_toArray, List.set_cons_zero, List.set_cons_succ])
            refine wpTill_pure (i := 8) (v := ?_) rfl (by kernel_rfl) (by kernel_rfl) (by kernel_rfl) (by kernel_rfl) (fun _ _ _ h => h) (Or.inl ⟨by rfl, ?_⟩) (fun _ => hC0) ?_
            rotate_left
            · intro w hSw; clear hSw; go_simp; (try with_reducible rfl)
            (try simp only [List.getElem_toArray, List.getElem_cons_succ, List.getElem_cons_zero])
            (try simp only [Act.put, List.setIfInBounds_toArray, List.set_cons_zero, List.set_cons_succ])
            refine wpTill_pure (i := 9) (v := ?_) rfl (by kernel_rfl) (by kernel_rfl) (by kernel_rfl) (by kernel_rfl) (fun _ _ _ h => h) (Or.inl ⟨by rfl, ?_⟩) (fun _ => hC0) ?_
            rotate_left
            · intro w hSw; clear hSw; go_simp; (try with_reducible rfl)
            (try simp only [List.getElem_toArray, List.getElem_cons_succ, List.getElem_cons_zero])
            (try simp only [Act.put, List.setIfInBounds_toArray, List.set_cons_zero, List.set_cons_succ])
            refine wpTill_one (k := 10) (by kernel_rfl) rfl (fun K hK => ?_)
            (try simp only [List.getElem_toArray, List.getElem_cons_succ, List.getElem_cons_zero])
            go_simp
            refine (unhide HWE _).mono ?_
            rintro e xw_1 ⟨xv_1, rfl, hv_1, hb_1⟩
            have cc_1 := below_step bd0 hb_1
            have hC_1 : (fun w' : World => w'.cell? ⟨go, 2, none⟩ = some (.slice (some ⟨gC, 0, none⟩) 81 81) ∧ (w'.cell? ⟨gk, 1, none⟩ = some (.bool tu.s) ∧ w'.cell? ⟨gk, 2, none⟩ = some (.slice tu.a1 tu.n1 tu.c1) ∧ w'.cell? ⟨gk, 3, none⟩ = some (.slice tu.a2 tu.n2 tu.c2)) ∧ w'.cell? ⟨w.heap.size, 2, none⟩ = some (.int .i64 E)) xw_1 := unhide HCC _ cc_1
            refine hK.out _ _ (fun _ => hC_1) ?_
            clear hK K
            (try simp only [Act.put, List.setIfInBounds_toArray, List.set_cons_zero, List.set_cons_succ])
            refine wpTill_one (k := 11) (by kernel_rfl) rfl (fun K hK => ?_)
            (try simp only [List.getElem_toArray, List.getElem_cons_succ, List.getElem_cons_zero])
            go_simp
            refine (subR_any _ _ _ _ _ ((unhide HK7).2.below cc_1) hv_1 _ (unhide HRC) (unhide HRE) (unhide HKK)).mono ?_
            rintro e xw_2 ⟨xv_2, rfl, hv_2, hb_2⟩
            have cc_2 := below_step cc_1 hb_2
            have hC_2 : (fun w' : World => w'.cell? ⟨go, 2, none⟩ = some (.slice (some ⟨gC, 0, none⟩) 81 81) ∧ (w'.cell? ⟨gk, 1, none⟩ = some (.bool tu.s) ∧ w'.cell? ⟨gk, 2, none⟩ = some (.slice tu.a1 tu.n1 tu.c1) ∧ w'.cell? ⟨gk, 3, none⟩ = some (.slice tu.a2 tu.n2 tu.c2)) ∧ w'.cell? ⟨w.heap.size, 2, none⟩ = some (.int .i64 E)) xw_2 := unhide HCC _ cc_2
            refine hK.out _ _ (fun _ => hC_2) ?_
            clear hK K
            (try simp only [Act.put, List.setIfInBounds_toArray, List.set_cons_zero, List.set_cons_succ])
            refine wpTill_pure (i := 12) (v := ?_) rfl (by kernel_rfl) (by kernel_rfl) (by kernel_rfl) (by kernel_rfl) (fun _ _ _ h => h) (Or.inl ⟨by rfl, ?_⟩) (fun _ => hC_2) ?_
            rotate_left
            · intro w hSw; clear hSw; go_simp; (try with_reducible rfl)
            (try simp only [List.getElem_toArray, List.getElem_cons_succ, List.getElem_cons_zero])
            (try simp only [Act.put, List.setIfInBounds_toArray, List.set_cons_zero, List.set_cons_succ])
            obtain ⟨t8, rfl, r8⟩ := tri_of hv_2
            rw [unhide HCE] at r8
            simp only [Tri.val]
            have S8 := (unhide HS7).keep cc_2
            have K8 := (unhide HK7).keep cc_2
            have ⟨⟨y0, y1, y2⟩, l0, l1, l2⟩ := S8.row.cells i (by rw [S8.len]; omega)
            have F8 := S8.setR (unhide HOR) (show i < 81 by omega) r8
            rw [unhide HRQ] at F8
            have G8 := (row_tch S8.row (i * 3) (i * 3 + 1) (i * 3 + 2) (.bool t8.s) (.slice t8.a1 t8.n1 t8.c1) (.slice t8.a2 t8.n2 t8.c2)).goal K8 (unhide HNE).1
            obtain ⟨W8, hW8⟩ : ∃ W, ((xw_2.setCell ⟨gC, i * 3, none⟩ (.bool t8.s)).setCell ⟨gC, i * 3 + 1, none⟩ (.slice t8.a1 t8.n1 t8.c1)).setCell ⟨gC, i * 3 + 2, none⟩ (.slice t8.a2 t8.n2 t8.c2) = W := ⟨_, rfl⟩
            rw [hW8] at F8 G8
            have HF8 := hide F8
            have HG8 := hide G8
            clear S8 K8 F8 G8 r8 hv_1 hv_2
            refine wpTill_one (k := 13) (by kernel_rfl) rfl (fun K hK => ?_)
            (try simp only [List.getElem_toArray, List.getElem_cons_succ, List.getElem_cons_zero])
            go_simp
            refine hK.out _ _ (fun h => absurd (h.symm.trans (by kernel_rfl)) Bool.false_ne_true) ?_
            clear hK K
            (try simp only [Act.put, List.setIfInBounds_toArray, List.set_cons_zero, List.set_cons_succ])
            refine wpTill_done (by kernel_rfl) ?_ _
            clear hC0 hC_1 hC_2 cc_1 cc_2 bd0 hb_1 hb_2 HCC l0 l1 l2 y0 y1 y2 hW8
            have k0 := (unhide HG8).cells.1
            have o1 := (unhide HF8).outs.1.2.1
            have o2 := (unhide HF8).outs.2.2.1
            have F9 := (unhide HF8).setHi (unhide HOR) ca
            have G9 := (out_tch (unhide HF8) 1 (.int .i64 ca)).goal (unhide HG8) (unhide HNE).2
            obtain ⟨W9, hW9⟩ : ∃ W, W8.setCell ⟨go, 1, none⟩ (.int .i64 ca) = W := ⟨_, rfl⟩
            rw [hW9] at F9 G9
            have HF9 := hide F9
            have k9 := G9.cells.1
            have o3 := F9.outs.1.1
            have o4 := F9.outs.2.1
            clear F9 G9
            by_cases hcx : ca = x
            · have e1 : (ca == x) = true := by rw [beq_iff_eq]; exact hcx
              have F10 := (unhide HF9).setLo (unhide HOR) x
              have HF10 := hide F10
              have HCX := hide hcx
              clear F10 hcx
              go_wp2
              exact ⟨⟨d + 1, x - 1, tb, _, _, _, rfl, by have := unhide HXD; omega, by omega, unhide HFN (unhide HF10)⟩, by have := unhide HXD; simp [intOf]; omega⟩
            · have e1 : (ca == x) = false := by rw [beq_eq_false_iff_ne]; exact hcx
              clear hcx
              go_wp2
              exact ⟨⟨d + 1, x - 1, tb, _, _, _, rfl, by have := unhide HXD; omega, by omega, unhide HFN (unhide HF9)⟩, by have := unhide HXD; simp [intOf]; omega⟩
      · have hlt2 : ¬ (pH qs B E L S) (Sto.bst (pH qs B E L S) 80 d) + ((F : Int) : Rat) < (pH qs B E L S) i := fun h => hsl (by rw [← unhide HSG]; exact cmp_neg.2 h)
        have HCE := hide (unhide HCST _ (unhide HCB hlt2).symm)
        have HRC := hide ((unhide HRI).mono (show 110000000 ≤ 120000000 by omega))
        obtain ⟨ca, hca⟩ : ∃ c, c = x := ⟨x, rfl⟩
        have K4' : GoalAt w4 gk ca th ((pH qs B E L S) i) := by rw [hca]; exact K4
        have HS5 := hide S4
        have HH5 := hide H4
        have HK5 := hide K4'
        have HCAV := hide hca
        clear S4 H4 K4 K4' U4 hlt2 HCA HCB HCST hca
        have h5 := unhide HH5
        have s5 := (unhide HS5).be
        obtain ⟨_, hc1, hc2, hc3⟩ := h5.cells
        obtain ⟨_, bc1, bc2, bc3⟩ := s5.cells
        have C4 := hide (cmpR_any _ _ _ _ w4 h5.2 s5.2 (unhide HSMH).1 (unhide HSMB).1 (unhide HSMH).2 (unhide HSMB).2)
        obtain ⟨sg2, hsg2⟩ : ∃ s, Wd.sg (((pH qs B E L S) i).num * ((pH qs B E L S) (Sto.bst (pH qs B E L S) 80 d)).den) (((pH qs B E L S) (Sto.bst (pH qs B E L S) 80 d)).num * ((pH qs B E L S) i).den) = s := ⟨_, rfl⟩
        rw [hsg2] at C4
        have HSG2 := hide hsg2
        simp only [Tri.val] at C4
        clear h5 s5 hsg2
        go_wp2_with fail
        refine (unhide C4).mono ?_
        rintro e w6 ⟨rfl, hb6⟩
        have HS6 := hide ((unhide HS5).keep hb6)
        have HH6 := hide ((unhide HH5).keep hb6)
        have HK6 := hide ((unhide HK5).keep hb6)
        clear C4 hb6 hc1 hc2 hc3 bc1 bc2 bc3 HS5 HH5 HK5
        by_cases hle : sg2 ≤ 0
        · have hbq : (pH qs B E L S) i ≤ (pH qs B E L S) (Sto.bst (pH qs B E L S) 80 d) := by
            rcases Decidable.em ((pH qs B E L S) i ≤ (pH qs B E L S) (Sto.bst (pH qs B E L S) 80 d)) with c | c
            · exact c
            · have := cmp_pos.2 (show (pH qs B E L S) (Sto.bst (pH qs B E L S) 80 d) < (pH qs B E L S) i by grind)
              rw [unhide HSG2] at this
              omega
          obtain ⟨hc0, hc1, hc2, hc3⟩ := (unhide HH6).cells
          obtain ⟨bc0, bc1, bc2, bc3⟩ := (unhide HS6).be.cells
          obtain ⟨bf0, bf1, bf2, bf3⟩ := (unhide HS6).be.free
          have S7 := (unhide HS6).setB (unhide HOR) (y' := x) (unhide HH6).2
          have K7 := ((unhide HS6).be.tch (.int .i64 x) (.bool th.s) (.slice th.a1 th.n1 th.c1) (.slice th.a2 th.n2 th.c2)).goal (unhide HK6) (unhide HNB)
          unfold set4 at S7 K7
          obtain ⟨W7, hW7⟩ : ∃ W, (((w6.setCell ⟨gB, 0, none⟩ (.int .i64 x)).setCell ⟨gB, 1, none⟩ (.bool th.s)).setCell ⟨gB, 2, none⟩ (.slice th.a1 th.n1 th.c1)).setCell ⟨gB, 3, none⟩ (.slice th.a2 th.n2 th.c2) = W := ⟨_, rfl⟩
          rw [hW7] at S7 K7
          have HS7 := hide S7
          have HK7 := hide K7
          have HFN : Hid (∀ {lo' hi' : Int} {us' : List Tri} {cs' : List Rat} {WW : World}, RuS w WW w.heap.size gb gr gC go gf gB v F E L S fk bd tf th lo' hi' x ((pH qs B E L S) i) us' cs' → RuE qs B E L S v F fk bd tf w gb gr gC go gf gB (d + 1) th lo' hi' us' cs' WW) := by
            intro lo' hi' us' cs' WW h
            have e : Sto.bst (pH qs B E L S) 80 (d + 1) = i := by
              show (if (pH qs B E L S) (80 - d) ≤ (pH qs B E L S) (Sto.bst (pH qs B E L S) 80 d) then 80 - d else Sto.bst (pH qs B E L S) 80 d) = i
              rw [unhide HI80, if_pos hbq]
            unfold RuE
            rw [e, ← unhide HXI]
            exact h
          clear S7 K7 HS6 HH6 HK6 hbq
          go_wp2_with fail
          clear hc0 hc1 hc2 hc3 bc0 bc1 bc2 bc3 bf0 bf1 bf2 bf3 hW7
          as_aux_lemma =>
            have HCC : Hid (∀ W', Below W7.heap.size W7 W' → (fun w' : World => w'.cell? ⟨go, 2, none⟩ = some (.slice (some ⟨gC, 0, none⟩) 81 81) ∧ (w'.cell? ⟨gk, 1, none⟩ = some (.bool th.s) ∧ w'.cell? ⟨gk, 2, none⟩ = some (.slice th.a1 th.n1 th.c1) ∧ w'.cell? ⟨gk, 3, none⟩ = some (.slice th.a2 th.n2 th.c2)) ∧ w'.cell? ⟨w.heap.size, 2, none⟩ = some (.int .i64 E)) W') := fun W' hW' => by
              have k1 := (unhide HS7).keep hW'
              have k2 := (unhide HK7).keep hW'
              exact ⟨k1.outs.1.2.2, ⟨k2.cells.2.1, k2.cells.2.2.1, k2.cells.2.2.2⟩, k1.sh.cells.2.2.1⟩
            refine wp_region_till (fun w' : World => w'.cell? ⟨go, 2, none⟩ = some (.slice (some ⟨gC, 0, none⟩) 81 81) ∧ (w'.cell? ⟨gk, 1, none⟩ = some (.bool th.s) ∧ w'.cell? ⟨gk, 2, none⟩ = some (.slice th.a1 th.n1 th.c1) ∧ w'.cell? ⟨gk, 3, none⟩ = some (.slice th.a2 th.n2 th.c2)) ∧ w'.cell? ⟨w.heap.size, 2, none⟩ = some (.int .i64 E)) 13 (by kernel_rfl) ?_
            have bd0 : Below W7.heap.size W7 W7.drew := (Below.refl _ _).drew
            have hC0 : (fun w' : World => w'.cell? ⟨go, 2, none⟩ = some (.slice (some ⟨gC, 0, none⟩) 81 81) ∧ (w'.cell? ⟨gk, 1, none⟩ = some (.bool th.s) ∧ w'.cell? ⟨gk, 2, none⟩ = some (.slice th.a1 th.n1 th.c1) ∧ w'.cell? ⟨gk, 3, none⟩ = some (.slice th.a2 th.n2 th.c2)) ∧ w'.cell? ⟨w.heap.size, 2, none⟩ = some (.int .i64 E)) W7.drew := unhide HCC _ bd0
            refine wpTill_pure (i := 0) (v := ?_) rfl (by kernel_rfl) (by kernel_rfl) (by kernel_rfl) (by kernel_rfl) (fun _ _ _ h => h) (Or.inl ⟨by rfl, ?_⟩) (fun _ => hC0) ?_
            rotate_left
            · intro w hSw; clear hSw; go_simp; (try with_reducible rfl)
            (try simp only [List.getElem_toArray, List.getElem_cons_succ, List.getElem_cons_zero])
            (try simp only [Act.put, List.setIfInBounds_toArray, List.set_cons_zero, List.set_cons_succ])
            refine wpTill_take (i := 1) (v := ?_) rfl (by kernel_rfl) (by kernel_rfl) (by kernel_rfl) (by kernel_rfl) (by kernel_rfl) (by kernel_rfl) (fun _ _ _ h => h) (Or.inl ⟨by rfl, ?_⟩) hC0 ?_
            rotate_left
            · intro w hSw; (try dsimp only at hSw); obtain ⟨z0, ⟨z1, z2, z3⟩, z4⟩ := hSw; go_simp; (try with_reducible rfl)
            (try simp only [List.getElem_toArray, List.getElem_cons_succ, List.getElem_cons_zero])
            (try simp only [Act.put, List.setIfInBounds_toArray, List.set_cons_zero, List.set_cons_succ])
            refine wpTill_pure (i := 2) (v := ?_) rfl (by kernel_rfl) (by kernel_rfl) (by kernel_rfl) (by kernel_rfl) (fun _ _ _ h => h) (Or.inl ⟨by rfl, ?_⟩) (fun _ => hC0) ?_
            rotate_left
            · intro w hSw; clear hSw; go_simp; (try with_reducible rfl)
            (try simp only [List.getElem_toArray, List.getElem_cons_succ, List.getElem_cons_zero])
            (try simp only [Act.put, List.setIfInBounds_toArray, List.set_cons_zero, List.set_cons_succ])
            refine wpTill_pure (i := 3) (v := ?_) rfl (by kernel_rfl) (by kernel_rfl) (by kernel_rfl) (by kernel_rfl) (fun _ _ _ h => h) (Or.inl ⟨by rfl, ?_⟩) (fun _ => hC0) ?_
            rotate_left
            · intro w hSw; clear hSw; go_simp; (try with_reducible rfl)
            (try simp only [List.getElem_toArray, List.getElem_cons_succ, List.getElem_cons_zero])
            (try simp only [Act.put, List.setIfInBounds_toArray, List.set_cons_zero, List.set_cons_succ])
            refine wpTill_pure (i := 4) (v := ?_) rfl (by kernel_rfl) (by kernel_rfl) (by kernel_rfl) (by kernel_rfl) (fun _ _ _ h => h) (Or.inl ⟨by rfl, ?_⟩) (fun _ => hC0) ?_
            rotate_left
            · intro w hSw; clear hSw; go_simp; (try with_reducible rfl)
            (try simp only [List.getElem_toArray, List.getElem_cons_succ, List.getElem_cons_zero])
            (try simp only [Act.put, List.setIfInBounds_toArray, List.set_cons_zero, List.set_cons_succ])
            refine wpTill_take (i := 5) (v := ?_) rfl (by kernel_rfl) (by kernel_rfl) (by kernel_rfl) (by kernel_rfl) (by kernel_rfl) (by kernel_rfl) (fun _ _ _ h => h) (Or.inl ⟨by rfl, ?_⟩) hC0 ?_
            rotate_left
            · intro w hSw; (try dsimp only at hSw); obtain ⟨z0, ⟨z1, z2, z3⟩, z4⟩ := hSw; go_simp; (try with_reducible rfl)
            (try simp only [List.getElem_toArray, List.getElem_cons_succ, List.getElem_cons_zero])
            (try simp only [Act.put, List.setIfInBounds_toArray, List.set_cons_zero, List.set_cons_succ])
            refine wpTill_pure (i := 6) (v := ?_) rfl (by kernel_rfl) (by kernel_rfl) (by kernel_rfl) (by kernel_rfl) (fun _ _ _ h => h) (Or.inl ⟨by rfl, ?_⟩) (fun _ => hC0) ?_
            rotate_left
            · intro w hSw; clear hSw; go_simp; (try with_reducible rfl)
            (try simp only [List.getElem_toArray, List.getElem_cons_succ, List.getElem_cons_zero])
            (try simp only [Act.put, List.setIfInBounds_toArray, List.set_cons_zero, List.set_cons_succ])
            refine wpTill_take (i := 7) (v := ?_) rfl (by kernel_rfl) (by kernel_rfl) (by kernel_rfl) (by kernel_rfl) (by kernel_rfl) (by kernel_rfl) (fun _ _ _ h => h) (Or.inl ⟨by rfl, ?_⟩) hC0 ?_
            rotate_left
            · intro w hSw; (try dsimp only at hSw); obtain ⟨z0, ⟨z1, z2, z3⟩, z4⟩ := hSw; go_simp; (try with_reducible rfl)
            (try simp only [List.getElem_toArray, List.getElem_cons_succ, List.getElem_cons_zero])
            (try simp only [Act.put, List.setIfInBounds_toArray, List.set_cons_zero, List.set_cons_succ])
            refine wpTill_pure (i := 8) (v := ?_) rfl (by kernel_rfl) (by kernel_rfl) (by kernel_rfl) (by kernel_rfl) (fun _ _ _ h => h) (Or.inl ⟨by rfl, ?_⟩) (fun _ => hC0) ?_
            rotate_left
            · intro w hSw; clear hSw; go_simp; (try with_reducible rfl)
            (try simp only [List.getElem_toArray, List.getElem_cons_succ, List.getElem_cons_zero])
            (try simp only [Act.put, List.setIfInBounds_toArray, List.set_cons_zero, List.set_cons_succ])
            refine wpTill_pure (i := 9) (v := ?_) rfl (by kernel_rfl) (by kernel_rfl) (by kernel_rfl) (by kernel_rfl) (fun _ _ _ h => h) (Or.inl ⟨by rfl, ?_⟩) (fun _ => hC0) ?_
            rotate_left
            · intro w hSw; clear hSw; go_simp; (try with_reducible rfl)
            (try simp only [List.getElem_toArray, List.getElem_cons_succ, List.getElem_cons_zero])
            (try simp only [Act.put, List.setIfInBounds_toArray, List.set_cons_zero, List.set_cons_succ])
            refine wpTill_one (k := 10) (by kernel_rfl) rfl (fun K hK => ?_)
            (try simp only [List.getElem_toArray, List.getElem_cons_succ, List.getElem_cons_zero])
            go_simp
            refine (unhide HWE _).mono ?_
            rintro e xw_1 ⟨xv_1, rfl, hv_1, hb_1⟩
            have cc_1 := below_step bd0 hb_1
            have hC_1 : (fun w' : World => w'.cell? ⟨go, 2, none⟩ = some (.slice (some ⟨gC, 0, none⟩) 81 81) ∧ (w'.cell? ⟨gk, 1, none⟩ = some (.bool th.s) ∧ w'.cell? ⟨gk, 2, none⟩ = some (.slice th.a1 th.n1 th.c1) ∧ w'.cell? ⟨gk, 3, none⟩ = some (.slice th.a2 th.n2 th.c2)) ∧ w'.cell? ⟨w.heap.size, 2, none⟩ = some (.int .i64 E)) xw_1 := unhide HCC _ cc_1
            refine hK.out _ _ (fun _ => hC_1) ?_
            clear hK K
            (try simp only [Act.put, List.setIfInBounds_toArray, List.set_cons_zero, List.set_cons_succ])
            refine wpTill_one (k := 11) (by kernel_rfl) rfl (fun K hK => ?_)
            (try simp only [List.getElem_toArray, List.getElem_cons_succ, List.getElem_cons_zero])
            go_simp
            refine (subR_any _ _ _ _ _ ((unhide HK7).2.below cc_1) hv_1 _ (unhide HRC) (unhide HRE) (unhide HKK)).mono ?_
            rintro e xw_2 ⟨xv_2, rfl, hv_2, hb_2⟩
            have cc_2 := below_step cc_1 hb_2
            have hC_2 : (fun w' : World => w'.cell? ⟨go, 2, none⟩ = some (.slice (some ⟨gC, 0, none⟩) 81 81) ∧ (w'.cell? ⟨gk, 1, none⟩ = some (.bool th.s) ∧ w'.cell? ⟨gk, 2, none⟩ = some (.slice th.a1 th.n1 th.c1) ∧ w'.cell? ⟨gk, 3, none⟩ = some (.slice th.a2 th.n2 th.c2)) ∧ w'.cell? ⟨w.heap.size, 2, none⟩ = some (.int .i64 E)) xw_2 := unhide HCC _ cc_2
            refine hK.out _ _ (fun _ => hC_2) ?_
            clear hK K
            (try simp only [Act.put, List.setIfInBounds_toArray, List.set_cons_zero, List.set_cons_succ])
            refine wpTill_pure (i := 12) (v := ?_) rfl (by kernel_rfl) (by kernel_rfl) (by kernel_rfl) (by kernel_rfl) (fun _ _ _ h => h) (Or.inl ⟨by rfl, ?_⟩) (fun _ => hC_2) ?_
            rotate_left
            · intro w hSw; clear hSw; go_simp; (try with_reducible rfl)
            (try simp only [List.getElem_toArray, List.getElem_cons_succ, List.getElem_cons_zero])
            (try simp only [Act.put, List.setIfInBounds_toArray, List.set_cons_zero, List.set_cons_succ])
            obtain ⟨t8, rfl, r8⟩ := tri_of hv_2
            rw [unhide HCE] at r8
            simp only [Tri.val]
            have S8 := (unhide HS7).keep cc_2
            have K8 := (unhide HK7).keep cc_2
            have ⟨⟨y0, y1, y2⟩, l0, l1, l2⟩ := S8.row.cells i (by rw [S8.len]; omega)
            have F8 := S8.setR (unhide HOR) (show i < 81 by omega) r8
            rw [unhide HRQ] at F8
            have G8 := (row_tch S8.row (i * 3) (i * 3 + 1) (i * 3 + 2) (.bool t8.s) (.slice t8.a1 t8.n1 t8.c1) (.slice t8.a2 t8.n2 t8.c2)).goal K8 (unhide HNE).1
            obtain ⟨W8, hW8⟩ : ∃ W, ((xw_2.setCell ⟨gC, i * 3, none⟩ (.bool t8.s)).setCell ⟨gC, i * 3 + 1, none⟩ (.slice t8.a1 t8.n1 t8.c1)).setCell ⟨gC, i * 3 + 2, none⟩ (.slice t8.a2 t8.n2 t8.c2) = W := ⟨_, rfl⟩
            rw [hW8] at F8 G8
            have HF8 := hide F8
            have HG8 := hide G8
            clear S8 K8 F8 G8 r8 hv_1 hv_2
            refine wpTill_one (k := 13) (by kernel_rfl) rfl (fun K hK => ?_)
            (try simp only [List.getElem_toArray, List.getElem_cons_succ, List.getElem_cons_zero])
            go_simp
            refine hK.out _ _ (fun h => absurd (h.symm.trans (by kernel_rfl)) Bool.false_ne_true) ?_
            clear hK K
            (try simp only [Act.put, List.setIfInBounds_toArray, List.set_cons_zero, List.set_cons_succ])
            refine wpTill_done (by kernel_rfl) ?_ _
            clear hC0 hC_1 hC_2 cc_1 cc_2 bd0 hb_1 hb_2 HCC l0 l1 l2 y0 y1 y2 hW8
            have k0 := (unhide HG8).cells.1
            have o1 := (unhide HF8).outs.1.2.1
            have o2 := (unhide HF8).outs.2.2.1
            have F9 := (unhide HF8).setHi (unhide HOR) ca
            have G9 := (out_tch (unhide HF8) 1 (.int .i64 ca)).goal (unhide HG8) (unhide HNE).2
            obtain ⟨W9, hW9⟩ : ∃ W, W8.setCell ⟨go, 1, none⟩ (.int .i64 ca) = W := ⟨_, rfl⟩
            rw [hW9] at F9 G9
            have HF9 := hide F9
            have k9 := G9.cells.1
            have o3 := F9.outs.1.1
            have o4 := F9.outs.2.1
            clear F9 G9
            by_cases hcx : ca = x
            · have e1 : (ca == x) = true := by rw [beq_iff_eq]; exact hcx
              have F10 := (unhide HF9).setLo (unhide HOR) x
              have HF10 := hide F10
              have HCX := hide hcx
              clear F10 hcx
              go_wp2
              exact ⟨⟨d + 1, x - 1, th, _, _, _, rfl, by have := unhide HXD; omega, by omega, unhide HFN (unhide HF10)⟩, by have := unhide HXD; simp [intOf]; omega⟩
            · have e1 : (ca == x) = false := by rw [beq_eq_false_iff_ne]; exact hcx
              clear hcx
              go_wp2
              exact ⟨⟨d + 1, x - 1, th, _, _, _, rfl, by have := unhide HXD; omega, by omega, unhide HFN (unhide HF9)⟩, by have := unhide HXD; simp [intOf]; omega⟩
        · have hbq : ¬ (pH qs B E L S) i ≤ (pH qs B E L S) (Sto.bst (pH qs B E L S) 80 d) := fun h => by
            have h1 : ¬ (pH qs B E L S) (Sto.bst (pH qs B E L S) 80 d) < (pH qs B E L S) i := by grind
            have h2 : ¬ 0 < sg2 := fun h3 => h1 (cmp_pos.1 (by rw [unhide HSG2]; exact h3))
            omega
          have HS7 := HS6
          have HK7 := HK6
          have HFN : Hid (∀ {lo' hi' : Int} {us' : List Tri} {cs' : List Rat} {WW : World}, RuS w WW w.heap.size gb gr gC go gf gB v F E L S fk bd tf tb lo' hi' (((Sto.bst (pH qs B E L S) 80 d : Nat) : Int) - 40) ((pH qs B E L S) (Sto.bst (pH qs B E L S) 80 d)) us' cs' → RuE qs B E L S v F fk bd tf w gb gr gC go gf gB (d + 1) tb lo' hi' us' cs' WW) := by
            intro lo' hi' us' cs' WW h
            have e : Sto.bst (pH qs B E L S) 80 (d + 1) = Sto.bst (pH qs B E L S) 80 d := by
              show (if (pH qs B E L S) (80 - d) ≤ (pH qs B E L S) (Sto.bst (pH qs B E L S) 80 d) then 80 - d else Sto.bst (pH qs B E L S) 80 d) = _
              rw [unhide HI80, if_neg hbq]
            unfold RuE
            rw [e]
            exact h
          clear HS6 HH6 HK6 hbq
          go_wp2_with fail
          as_aux_lemma =>
            have HCC : Hid (∀ W', Below w6.heap.size w6 W' → (fun w' : World => w'.cell? ⟨go, 2, none⟩ = some (.slice (some ⟨gC, 0, none⟩) 81 81) ∧ (w'.cell? ⟨gk, 1, none⟩ = some (.bool th.s) ∧ w'.cell? ⟨gk, 2, none⟩ = some (.slice th.a1 th.n1 th.c1) ∧ w'.cell? ⟨gk, 3, none⟩ = some (.slice th.a2 th.n2 th.c2)) ∧ w'.cell? ⟨w.heap.size, 2, none⟩ = some (.int .i64 E)) W') := fun W' hW' => by
              have k1 := (unhide HS7).keep hW'
              have k2 := (unhide HK7).keep hW'
              exact ⟨k1.outs.1.2.2, ⟨k2.cells.2.1, k2.cells.2.2.1, k2.cells.2.2.2⟩, k1.sh.cells.2.2.1⟩
            refine wp_region_till (fun w' : World => w'.cell? ⟨go, 2, none⟩ = some (.slice (some ⟨gC, 0, none⟩) 81 81) ∧ (w'.cell? ⟨gk, 1, none⟩ = some (.bool th.s) ∧ w'.cell? ⟨gk, 2, none⟩ = some (.slice th.a1 th.n1 th.c1) ∧ w'.cell? ⟨gk, 3, none⟩ = some (.slice th.a2 th.n2 th.c2)) ∧ w'.cell? ⟨w.heap.size, 2, none⟩ = some (.int .i64 E)) 13 (by kernel_rfl) ?_
            have bd0 : Below w6.heap.size w6 w6.drew := (Below.refl _ _).drew
            have hC0 : (fun w' : World => w'.cell? ⟨go, 2, none⟩ = some (.slice (some ⟨gC, 0, none⟩) 81 81) ∧ (w'.cell? ⟨gk, 1, none⟩ = some (.bool th.s) ∧ w'.cell? ⟨gk, 2, none⟩ = some (.slice th.a1 th.n1 th.c1) ∧ w'.cell? ⟨gk, 3, none⟩ = some (.slice th.a2 th.n2 th.c2)) ∧ w'.cell? ⟨w.heap.size, 2, none⟩ = some (.int .i64 E)) w6.drew := unhide HCC _ bd0
            refine wpTill_pure (i := 0) (v := ?_) rfl (by kernel_rfl) (by kernel_rfl) (by kernel_rfl) (by kernel_rfl) (fun _ _ _ h => h) (Or.inl ⟨by rfl, ?_⟩) (fun _ => hC0) ?_
            rotate_left
            · intro w hSw; clear hSw; go_simp; (try with_reducible rfl)
            (try simp only [List.getElem_toArray, List.getElem_cons_succ, List.getElem_cons_zero])
            (try simp only [Act.put, List.setIfInBounds_toArray, List.set_cons_zero, List.set_cons_succ])
            refine wpTill_take (i := 1) (v := ?_) rfl (by kernel_rfl) (by kernel_rfl) (by kernel_rfl) (by kernel_rfl) (by kernel_rfl) (by kernel_rfl) (fun _ _ _ h => h) (Or.inl ⟨by rfl, ?_⟩) hC0 ?_
            rotate_left
            · intro w hSw; (try dsimp only at hSw); obtain ⟨z0, ⟨z1, z2, z3⟩, z4⟩ := hSw; go_simp; (try with_reducible rfl)
            (try simp only [List.getElem_toArray, List.getElem_cons_succ, List.getElem_cons_zero])
            (try simp only [Act.put, List.setIfInBounds_toArray, List.set_cons_zero, List.set_cons_succ])
            refine wpTill_pure (i := 2) (v := ?_) rfl (by kernel_rfl) (by kernel_rfl) (by kernel_rfl) (by kernel_rfl) (fun _ _ _ h => h) (Or.inl ⟨by rfl, ?_⟩) (fun _ => hC0) ?_
            rotate_left
            · intro w hSw; clear hSw; go_simp; (try with_reducible rfl)
            (try simp only [List.getElem_toArray, List.getElem_cons_succ, List.getElem_cons_zero])
            (try simp only [Act.put, List.setIfInBounds_toArray, List.set_cons_zero, List.set_cons_succ])
            refine wpTill_pure (i := 3) (v := ?_) rfl (by kernel_rfl) (by kernel_rfl) (by kernel_rfl) (by kernel_rfl) (fun _ _ _ h => h) (Or.inl ⟨by rfl, ?_⟩) (fun _ => hC0) ?_
            rotate_left
            · intro w hSw; clear hSw; go_simp; (try with_reducible rfl)
            (try simp only [List.getElem_toArray, List.getElem_cons_succ, List.getElem_cons_zero])
            (try simp only [Act.put, List.setIfInBounds_toArray, List.set_cons_zero, List.set_cons_succ])
            refine wpTill_pure (i := 4) (v := ?_) rfl (by kernel_rfl) (by kernel_rfl) (by kernel_rfl) (by kernel_rfl) (fun _ _ _ h => h) (Or.inl ⟨by rfl, ?_⟩) (fun _ => hC0) ?_
            rotate_left
            · intro w hSw; clear hSw; go_simp; (try with_reducible rfl)
            (try simp only [List.getElem_toArray, List.getElem_cons_succ, List.getElem_cons_zero])
            (try simp only [Act.put, List.setIfInBounds_toArray, List.set_cons_zero, List.set_cons_succ])
            refine wpTill_take (i := 5) (v := ?_) rfl (by kernel_rfl) (by kernel_rfl) (by kernel_rfl) (by kernel_rfl) (by kernel_rfl) (by kernel_rfl) (fun _ _ _ h => h) (Or.inl ⟨by rfl, ?_⟩) hC0 ?_
            rotate_left
            · intro w hSw; (try dsimp only at hSw); obtain ⟨z0, ⟨z1, z2, z3⟩, z4⟩ := hSw; go_simp; (try with_reducible rfl)
            (try simp only [List.getElem_toArray, List.getElem_cons_succ, List.getElem_cons_zero])
            (try simp only [Act.put, List.setIfInBounds_toArray, List.set_cons_zero, List.set_cons_succ])
            refine wpTill_pure (i := 6) (v := ?_) rfl (by kernel_rfl) (by kernel_rfl) (by kernel_rfl) (by kernel_rfl) (fun _ _ _ h => h) (Or.inl ⟨by rfl, ?_⟩) (fun _ => hC0) ?_
            rotate_left
            · intro w hSw; clear hSw; go_simp; (try with_reducible rfl)
            (try simp only [List.getElem_toArray, List.getElem_cons_succ, List.getElem_cons_zero])
            (try simp only [Act.put, List.setIfInBounds_toArray, List.set_cons_zero, List.set_cons_succ])
            refine wpTill_take (i := 7) (v := ?_) rfl (by kernel_rfl) (by kernel_rfl) (by kernel_rfl) (by kernel_rfl) (by kernel_rfl) (by kernel_rfl) (fun _ _ _ h => h) (Or.inl ⟨by rfl, ?_⟩) hC0 ?_
            rotate_left
            · intro w hSw; (try dsimp only at hSw); obtain ⟨z0, ⟨z1, z2, z3⟩, z4⟩ := hSw; go_simp; (try with_reducible rfl)
            (try simp only [List.getElem_toArray, List.getElem_cons_succ, List.getElem_cons_zero])
            (try simp only [Act.put, List.setIfInBounds_toArray, List.set_cons_zero, List.set_cons_succ])
            refine wpTill_pure (i := 8) (v := ?_) rfl (by kernel_rfl) (by kernel_rfl) (by kernel_rfl) (by kernel_rfl) (fun _ _ _ h => h) (Or.inl ⟨by rfl, ?_⟩) (fun _ => hC0) ?_
            rotate_left
            · intro w hSw; clear hSw; go_simp; (try with_reducible rfl)
            (try simp only [List.getElem_toArray, List.getElem_cons_succ, List.getElem_cons_zero])
            (try simp only [Act.put, List.setIfInBounds_toArray, List.set_cons_zero, List.set_cons_succ])
            refine wpTill_pure (i := 9) (v := ?_) rfl (by kernel_rfl) (by kernel_rfl) (by kernel_rfl) (by kernel_rfl) (fun _ _ _ h => h) (Or.inl ⟨by rfl, ?_⟩) (fun _ => hC0) ?_
            rotate_left
            · intro w hSw; clear hSw; go_simp; (try with_reducible rfl)
            (try simp only [List.getElem_toArray, List.getElem_cons_succ, List.getElem_cons_zero])
            (try simp only [Act.put, List.setIfInBounds_toArray, List.set_cons_zero, List.set_cons_succ])
            refine wpTill_one (k := 10) (by kernel_rfl) rfl (fun K hK => ?_)
            (try simp only [List.getElem_toArray, List.getElem_cons_succ, List.getElem_cons_zero])
            go_simp
            refine (unhide HWE _).mono ?_
            rintro e xw_1 ⟨xv_1, rfl, hv_1, hb_1⟩
            have cc_1 := below_step bd0 hb_1
            have hC_1 : (fun w' : World => w'.cell? ⟨go, 2, none⟩ = some (.slice (some ⟨gC, 0, none⟩) 81 81) ∧ (w'.cell? ⟨gk, 1, none⟩ = some (.bool th.s) ∧ w'.cell? ⟨gk, 2, none⟩ = some (.slice th.a1 th.n1 th.c1) ∧ w'.cell? ⟨gk, 3, none⟩ = some (.slice th.a2 th.n2 th.c2)) ∧ w'.cell? ⟨w.heap.size, 2, none⟩ = some (.int .i64 E)) xw_1 := unhide HCC _ cc_1
            refine hK.out _ _ (fun _ => hC_1) ?_
            clear hK K
            (try simp only [Act.put, List.setIfInBounds_toArray, List.set_cons_zero, List.set_cons_succ])
            refine wpTill_one (k := 11) (by kernel_rfl) rfl (fun K hK => ?_)
            (try simp only [List.getElem_toArray, List.getElem_cons_succ, List.getElem_cons_zero])
            go_simp
            refine (subR_any _ _ _ _ _ ((unhide HK7).2.below cc_1) hv_1 _ (unhide HRC) (unhide HRE) (unhide HKK)).mono ?_
            rintro e xw_2 ⟨xv_2, rfl, hv_2, hb_2⟩
            have cc_2 := below_step cc_1 hb_2
            have hC_2 : (fun w' : World => w'.cell? ⟨go, 2, none⟩ = some (.slice (some ⟨gC, 0, none⟩) 81 81) ∧ (w'.cell? ⟨gk, 1, none⟩ = some (.bool th.s) ∧ w'.cell? ⟨gk, 2, none⟩ = some (.slice th.a1 th.n1 th.c1) ∧ w'.cell? ⟨gk, 3, none⟩ = some (.slice th.a2 th.n2 th.c2)) ∧ w'.cell? ⟨w.heap.size, 2, none⟩ = some (.int .i64 E)) xw_2 := unhide HCC _ cc_2
            refine hK.out _ _ (fun _ => hC_2) ?_
            clear hK K
            (try simp only [Act.put, List.setIfInBounds_toArray, List.set_cons_zero, List.set_cons_succ])
            refine wpTill_pure (i := 12) (v := ?_) rfl (by kernel_rfl) (by kernel_rfl) (by kernel_rfl) (by kernel_rfl) (fun _ _ _ h => h) (Or.inl ⟨by rfl, ?_⟩) (fun _ => hC_2) ?_
            rotate_left
            · intro w hSw; clear hSw; go_simp; (try with_reducible rfl)
            (try simp only [List.getElem_toArray, List.getElem_cons_succ, List.getElem_cons_zero])
            (try simp only [Act.put, List.setIfInBounds_toArray, List.set_cons_zero, List.set_cons_succ])
            obtain ⟨t8, rfl, r8⟩ := tri_of hv_2
            rw [unhide HCE] at r8
            simp only [Tri.val]
            have S8 := (unhide HS7).keep cc_2
            have K8 := (unhide HK7).keep cc_2
            have ⟨⟨y0, y1, y2⟩, l0, l1, l2⟩ := S8.row.cells i (by rw [S8.len]; omega)
            have F8 := S8.setR (unhide HOR) (show i < 81 by omega) r8
            rw [unhide HRQ] at F8
            have G8 := (row_tch S8.row (i * 3) (i * 3 + 1) (i * 3 + 2) (.bool t8.s) (.slice t8.a1 t8.n1 t8.c1) (.slice t8.a2 t8.n2 t8.c2)).goal K8 (unhide HNE).1
            obtain ⟨W8, hW8⟩ : ∃ W, ((xw_2.setCell ⟨gC, i * 3, none⟩ (.bool t8.s)).setCell ⟨gC, i * 3 + 1, none⟩ (.slice t8.a1 t8.n1 t8.c1)).setCell ⟨gC, i * 3 + 2, none⟩ (.slice t8.a2 t8.n2 t8.c2) = W := ⟨_, rfl⟩
            rw [hW8] at F8 G8
            have HF8 := hide F8
            have HG8 := hide G8
            clear S8 K8 F8 G8 r8 hv_1 hv_2
            refine wpTill_one (k := 13) (by kernel_rfl) rfl (fun K hK => ?_)
            (try simp only [List.getElem_toArray, List.getElem_cons_succ, List.getElem_cons_zero])
            go_simp
            refine hK.out _ _ (fun h => absurd (h.symm.trans (by kernel_rfl)) Bool.false_ne_true) ?_
            clear hK K
            (try simp only [Act.put, List.setIfInBounds_toArray, List.set_cons_zero, List.set_cons_succ])
            refine wpTill_done (by kernel_rfl) ?_ _
            clear hC0 hC_1 hC_2 cc_1 cc_2 bd0 hb_1 hb_2 HCC l0 l1 l2 y0 y1 y2 hW8
            have k0 := (unhide HG8).cells.1
            have o1 := (unhide HF8).outs.1.2.1
            have o2 := (unhide HF8).outs.2.2.1
            have F9 := (unhide HF8).setHi (unhide HOR) ca
            have G9 := (out_tch (unhide HF8) 1 (.int .i64 ca)).goal (unhide HG8) (unhide HNE).2
            obtain ⟨W9, hW9⟩ : ∃ W, W8.setCell ⟨go, 1, none⟩ (.int .i64 ca) = W := ⟨_, rfl⟩
            rw [hW9] at F9 G9
            have HF9 := hide F9
            have k9 := G9.cells.1
            have o3 := F9.outs.1.1
            have o4 := F9.outs.2.1
            clear F9 G9
            by_cases hcx : ca = x
            · have e1 : (ca == x) = true := by rw [beq_iff_eq]; exact hcx
              have F10 := (unhide HF9).setLo (unhide HOR) x
              have HF10 := hide F10
              have HCX := hide hcx
              clear F10 hcx
              go_wp2
              exact ⟨⟨d + 1, x - 1, tb, _, _, _, rfl, by have := unhide HXD; omega, by omega, unhide HFN (unhide HF10)⟩, by have := unhide HXD; simp [intOf]; omega⟩
            · have e1 : (ca == x) = false := by rw [beq_eq_false_iff_ne]; exact hcx
              clear hcx
              go_wp2
              exact ⟨⟨d + 1, x - 1, tb, _, _, _, rfl, by have := unhide HXD; omega, by omega, unhide HFN (unhide HF9)⟩, by have := unhide HXD; simp [intOf]; omega⟩
    · obtain rfl : d = 81 := by omega
      have e1 : ¬ (-40 : Int) ≤ x := by omega
      have S0 : RuS _ _ _ _ _ _ _ _ _ _ _ _ _ _ _ _ _ _ _ _ _ _ _ _ := hE0
      obtain ⟨⟨o0, o1, o2⟩, _⟩ := S0.outs
      have hres := S0.res
      have r0 : wr.cell? ⟨gr, 0, none⟩ = some (.int .i64 0) := by simp [World.cell?, hres]
      have r1 : wr.cell? ⟨gr, 1, none⟩ = some (.int .i64 0) := by simp [World.cell?, hres]
      have r2 : wr.cell? ⟨gr, 2, none⟩ = some (.slice none 0 0) := by simp [World.cell?, hres]
      have q0 : wr.frozen? ⟨gr, 0, none⟩ = false := by simp [World.frozen?, hres]
      have q1 : wr.frozen? ⟨gr, 1, none⟩ = false := by simp [World.frozen?, hres]
      have q2 : wr.frozen? ⟨gr, 2, none⟩ = false := by simp [World.frozen?, hres]
      have ror := unhide HOR
      have hgr : w.heap.size ≤ gr := by have := ror.o1; have := ror.o2; omega
      have T9 : Tch wr (((wr.setCell ⟨gr, 0, none⟩ (.int .i64 lo)).setCell ⟨gr, 1, none⟩ (.int .i64 hi)).setCell ⟨gr, 2, none⟩ (.slice (some ⟨gC, 0, none⟩) 81 81)) gr :=
        ⟨fun k hk => by rw [Below.heap_setCell _ _ _ _ hk, Below.heap_setCell _ _ _ _ hk, Below.heap_setCell _ _ _ _ hk], by simp [World.setCell], ⟨_, hres, noWordR _ _ _ _ _ _ _⟩⟩
      have FB := ((S0.row.bl.setCell (p := ⟨gr, 0, none⟩) hgr (.int .i64 lo)).setCell (p := ⟨gr, 1, none⟩) hgr (.int .i64 hi)).setCell (p := ⟨gr, 2, none⟩) hgr (.slice (some ⟨gC, 0, none⟩) 81 81)
      have FR := S0.row.tch T9 (by have := ror.o3; omega) FB
      have FL := FR.law (by rw [S0.len]; decide)
      rw [S0.len] at FL
      have FX : (((wr.setCell ⟨gr, 0, none⟩ (.int .i64 lo)).setCell ⟨gr, 1, none⟩ (.int .i64 hi)).setCell ⟨gr, 2, none⟩ (.slice (some ⟨gC, 0, none⟩) 81 81)).heap[gr]? = some (.cells #[.int .i64 lo, .int .i64 hi, .slice (some ⟨gC, 0, none⟩) 81 81] 36) := by
        simp only [setCell_eq, mapBlock, Array.getElem?_modify, hres, if_true, Option.map_some, onCells]
        rfl
      obtain ⟨Wf, hWf⟩ : ∃ W, ((wr.setCell ⟨gr, 0, none⟩ (.int .i64 lo)).setCell ⟨gr, 1, none⟩ (.int .i64 hi)).setCell ⟨gr, 2, none⟩ (.slice (some ⟨gC, 0, none⟩) 81 81) = W := ⟨_, rfl⟩
      rw [hWf] at FB FL FX
      have x0 : Wf.cell? ⟨gr, 0, none⟩ = some (.int .i64 lo) := by simp [World.cell?, FX]
      have x1 : Wf.cell? ⟨gr, 1, none⟩ = some (.int .i64 hi) := by simp [World.cell?, FX]
      have x2 : Wf.cell? ⟨gr, 2, none⟩ = some (.slice (some ⟨gC, 0, none⟩) 81 81) := by simp [World.cell?, FX]
      have HFB := hide FB
      have HFL := hide FL
      have HGC : Hid (w.heap.size ≤ gC) := by have := ror.o3; show _ ≤ _; omega
      clear hE0 S0 hres T9 FB FR FL FX ror hgr hx
      go_wp2
      exact bodyPost_ret (v := .agg #[.int .i64 lo, .int .i64 hi, .slice (some ⟨gC, 0, none⟩) 81 81]) (by simp [results, Tryz.results17, go_sem, x0, x1, x2]) rfl ⟨lo, hi, gC, rfl, unhide HGC, unhide HFL, unhide HFB⟩
end Go.Proofs.YtohkmkoklhnnlaaGreatDoor
