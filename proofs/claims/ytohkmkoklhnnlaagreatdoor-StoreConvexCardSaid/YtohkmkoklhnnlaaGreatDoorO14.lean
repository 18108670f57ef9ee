/- A shop's Check and the rule of one period, by the program. -/
import Derived.Test.YtohkmkoklhnnlaaGreatDoorO13
namespace Go.Proofs.YtohkmkoklhnnlaaGreatDoor
open Go.RowKit Go.Sort Go.Shelf

/-- Four numbers in a block. -/
def FourAt (W : World) (g : Nat) (f : Nat → Int) : Prop := ∀ j, j < 4 → W.cell? ⟨g, j, none⟩ = some (.int .i64 (f j))
set_option maxHeartbeats 2000000 in
theorem wrong1_any (x : Int) (w : World) (h : 0 ≤ x ∧ x ≤ 1000) : Calls Tryz.prog 35 #[.int .i64 x] w fun e w' => e = .returned (.bool false) ∧ w' = w := by
  have h1 : ¬ x < 0 := by omega
  have h2 : ¬ (1000 : Int) < x := by omega
  clear h
  go_enter Tryz.func35, Tryz.ntmps35
  go_wp2
  go_ret
  exact ⟨rfl, rfl⟩
set_option maxHeartbeats 4000000 in
theorem index4_any (g : Nat) (f : Nat → Int) (w : World) (hc : FourAt w g f) (hf : ∀ j, j < 4 → 0 ≤ f j ∧ f j ≤ 1000) :
    Calls Tryz.prog 55 #[.slice (some ⟨g, 0, none⟩) 4 4, .func (.func 35) #[] #[]] w fun e w' => e = .returned (.int .i64 (-1)) ∧ w' = w := by
  have HC := hide hc
  have HF := hide hf
  clear hc hf
  go_enter Tryz.func55, Tryz.ntmps55
  go_wp2
  go_loopw [8] (fun vi wr => ∃ m : Nat, vi = .int .i64 (m : Int) ∧ m ≤ 4 ∧ wr = w) (fun vi _ => 4 - (intOf vi).toNat)
  case atStart => exact ⟨0, rfl, Nat.zero_le _, rfl⟩
  case round =>
    obtain ⟨m, rfl, hm, rfl⟩ := hrel
    by_cases hlt : m < 4
    · have k0 := unhide HC m hlt
      have hb := unhide HF m hlt
      obtain ⟨x, hx⟩ : ∃ x, f m = x := ⟨_, rfl⟩
      rw [hx] at k0 hb
      have e2 : (0 : Int) ≤ (m : Int) := by omega
      have e3 : (m : Int) < 4 := by omega
      have C := hide (wrong1_any x wr hb)
      clear hx hb
      go_wp2_with fail
      refine (unhide C).mono ?_
      rintro e_ w2 ⟨rfl, rfl⟩
      go_wp2
      exact ⟨⟨m + 1, by go_num, hlt, by first | exact rfl | trivial⟩, by simp [intOf]; omega⟩
    · obtain rfl : m = 4 := by omega
      have e3 : ¬ (((4 : Nat) : Int)) < 4 := by omega
      go_wp2
      go_ret
      exact ⟨rfl, rfl⟩
set_option maxHeartbeats 4000000 in
theorem contains4_any (g : Nat) (f : Nat → Int) (w : World) (hc : FourAt w g f) (hf : ∀ j, j < 4 → 0 ≤ f j ∧ f j ≤ 1000) :
    Calls Tryz.prog 34 #[.slice (some ⟨g, 0, none⟩) 4 4, .func (.func 35) #[] #[]] w fun e w' => e = .returned (.bool false) ∧ w' = w := by
  have C := hide (index4_any g f w hc hf)
  clear hc hf
  go_enter Tryz.func34, Tryz.ntmps34
  go_wp2_with fail
  refine (unhide C).mono ?_
  rintro e_ w2 ⟨rfl, rfl⟩
  go_wp2
  go_ret
  exact ⟨rfl, rfl⟩
def fourI (F E L S : Int) (j : Nat) : Int := if j = 0 then F else if j = 1 then E else if j = 2 then L else S
set_option maxHeartbeats 16000000 in
set_option maxRecDepth 100000 in
set_option linter.unusedSimpArgs false in
theorem scheck_any (v : Value) (F E L S : Int) (qs : List Rat) (w : World) (h : LawIs w v qs) (hq : ∀ j, j < qs.length → RS qs[j]! 1) (hlen : qs.length ≤ 6) (hF : 0 ≤ F ∧ F ≤ 1000) (hE : 0 ≤ E ∧ E ≤ 1000) (hL : 0 ≤ L ∧ L ≤ 1000) (hS : 0 ≤ S ∧ S ≤ 1000) :
    Calls Tryz.prog 15 #[.agg #[v, .int .i64 F, .int .i64 E, .int .i64 L, .int .i64 S]] w fun e w' => e = .returned (errV (chk qs)) ∧ Below w.heap.size w w' := by
  have HL := hide h
  obtain ⟨va, vc, rfl, hv1, hv2, _⟩ := h
  have KKe : KK = 1099511627776 := rfl
  have b1 := alloc_below w (.cells #[.slice va qs.length vc, .int .i64 F, .int .i64 E, .int .i64 L, .int .i64 S] 28)
  have X0 : ShopAt (w.alloc (.cells #[.slice va qs.length vc, .int .i64 F, .int .i64 E, .int .i64 L, .int .i64 S] 28)) w.heap.size (.slice va qs.length vc) F E L S := heap_alloc_new w _
  obtain ⟨W1, hW1⟩ : ∃ W, w.alloc (.cells #[.slice va qs.length vc, .int .i64 F, .int .i64 E, .int .i64 L, .int .i64 S] 28) = W := ⟨_, rfl⟩
  rw [hW1] at b1 X0
  have HC0 := hide (check_any (.slice va qs.length vc) qs 1 W1 ((unhide HL).below b1) hq (by omega))
  have c0 := X0.cells.1
  have HX := hide X0
  have HB1 := hide b1
  by_cases hc : chk qs = 0
  case neg =>
    obtain ⟨k, hk⟩ : ∃ k, chk qs = k := ⟨_, rfl⟩
    rw [hk] at hc HC0 ⊢
    rw [errV_not hc] at HC0
    have q5 : (k == 0) = false := by simpa using hc
    clear hk b1 X0 HL hq KKe hF hE hL hS
    go_enter Tryz.func15, Tryz.ntmps15
    go_wp2_with fail
    clear hW1
    refine (unhide HC0).mono ?_
    rintro e_ w2 ⟨rfl, hb⟩
    have HB2 := hide (below_step (unhide HB1) hb)
    clear hb
    go_wp2
    go_ret
    exact ⟨by rw [errV_not hc]; rfl, unhide HB2⟩
  rw [hc, errV_zero] at HC0
  rw [hc]
  have e1 : ¬ (9 : Int) < (qs.length : Int) := by omega
  have HFB : Hid (∀ j, j < 4 → 0 ≤ fourI F E L S j ∧ fourI F E L S j ≤ 1000) := by
    show ∀ j, _
    intro j hj
    match j, hj with
    | 0, _ => exact hF
    | 1, _ => exact hE
    | 2, _ => exact hL
    | 3, _ => exact hS
  clear b1 X0 HL hq KKe hF hE hL hS hc
  go_enter Tryz.func15, Tryz.ntmps15
  go_wp2_with fail
  clear hW1
  refine (unhide HC0).mono ?_
  rintro e_ w2 ⟨rfl, hb⟩
  have HB2 := hide (below_step (unhide HB1) hb)
  have X2 := (unhide HX).keep hb
  obtain ⟨d0, d1, d2, d3, d4⟩ := X2.cells
  have a3 := alloc_below w2 (.cells #[.int .i64 F, .int .i64 E, .int .i64 L, .int .i64 S] 3)
  have N3 := heap_alloc_new w2 (.cells #[.int .i64 F, .int .i64 E, .int .i64 L, .int .i64 S] 3)
  obtain ⟨W3, hW3⟩ : ∃ W, w2.alloc (.cells #[.int .i64 F, .int .i64 E, .int .i64 L, .int .i64 S] 3) = W := ⟨_, rfl⟩
  obtain ⟨g3, s3⟩ : ∃ g, w2.heap.size = g := ⟨_, rfl⟩
  rw [hW3] at a3 N3
  rw [s3] at N3
  have HFA : FourAt W3 g3 (fourI F E L S) := fun j hj => by
    match j, hj with
    | 0, _ => simp [World.cell?, N3, fourI]
    | 1, _ => simp [World.cell?, N3, fourI]
    | 2, _ => simp [World.cell?, N3, fourI]
    | 3, _ => simp [World.cell?, N3, fourI]
  have C2 := hide (contains4_any g3 _ W3 HFA (unhide HFB))
  have HB3 := hide (below_step (unhide HB2) a3)
  clear hb X2 a3 N3 HFA c0
  go_wp2_with fail
  clear hW3 s3 d0 d1 d2 d3 d4
  refine (unhide C2).mono ?_
  rintro e_ w4 ⟨rfl, rfl⟩
  go_wp2
  go_ret
  exact ⟨by rw [errV_zero]; rfl, unhide HB3⟩
theorem law_tch {W W' : World} {g gC n c : Nat} {qs : List Rat} (h : LawIs W (.slice (some ⟨gC, 0, none⟩) n c) qs) (T : Tch W W' g) (hne : gC ≠ g) : LawIs W' (.slice (some ⟨gC, 0, none⟩) n c) qs := by
  obtain ⟨a, c', e, h1, h2, h3⟩ := h
  refine ⟨a, c', e, h1, h2, fun hp => ?_⟩
  obtain ⟨b, o, ea, hlt, hc⟩ := h3 hp
  injection e with e1 e2 e3
  rw [ea] at e1
  injection e1 with e1
  injection e1 with e1 e4
  subst e1 e4
  refine ⟨gC, 0, ea, Nat.lt_of_lt_of_le hlt T.sz, fun j hj => ?_⟩
  obtain ⟨s, a1, a2, n1, c1, n2, c2, k0, k1, k2, r⟩ := hc j hj
  have hcell : ∀ i, W'.cell? ⟨gC, i, none⟩ = W.cell? ⟨gC, i, none⟩ := fun i => by simp only [World.cell?]; rw [T.oth gC hne]
  exact ⟨s, a1, a2, n1, c1, n2, c2, by rw [hcell]; exact k0, by rw [hcell]; exact k1, by rw [hcell]; exact k2, T.rat r⟩
/-- The rules of one period. -/
def RulesPost (qs : List Rat) (F E L S : Int) (w : World) (e : Ending) (w' : World) : Prop :=
  Below w.heap.size w w' ∧ ((chk qs ≠ 0 ∧ e = .returned (.tuple #[.slice none 0 0, .iface 50 (.int .i64 (chk qs))])) ∨
    (chk qs = 0 ∧ ∃ (g gC : Nat), e = .returned (.tuple #[.slice (some ⟨g, 0, none⟩) 1 1, .nilIface]) ∧ w'.cell? ⟨g, 2, none⟩ = some (.slice (some ⟨gC, 0, none⟩) 81 81) ∧ g < w'.heap.size ∧ LawIs w' (.slice (some ⟨gC, 0, none⟩) 81 81) (rowQ (cO qs (fun _ => 0) F E L S) 81)))
theorem Tryz.infoRl : (Tryz.prog.info? 36).map (fun i => (i.zero, i.size, i.bytes)) = some (some (.agg #[.int .i64 0, .int .i64 0, .slice none 0 0]), 3, 40) := by kernel_rfl
theorem make_rule (w : World) : (Instr.makeSlice 29 (.int .i64 1) (.int .i64 1)).run Tryz.prog w = .ok (.slice (some ⟨w.heap.size, 0, none⟩) 1 1) (w.alloc (.cells #[.int .i64 0, .int .i64 0, .slice none 0 0] 36)) := by
  obtain ⟨i, hi, hz0, hz1, hz2⟩ := info_parts Tryz.infoRl
  have e : madeCells (Value.agg #[.int .i64 0, .int .i64 0, .slice none 0 0]).cells ((1 : Int).toNat * i.size) = #[.int .i64 0, .int .i64 0, .slice none 0 0] := by
    rw [hz1]
    have hzc : (Value.agg #[.int .i64 0, .int .i64 0, .slice none 0 0]).cells = #[.int .i64 0, .int .i64 0, .slice none 0 0] := by simp [Value.cells]
    rw [hzc]
    apply Array.ext
    · simp [madeCells]
    · intro j h1 h2
      have hj : j < 3 := by simpa using h2
      match j, hj with
      | 0, _ => simp [madeCells]
      | 1, _ => simp [madeCells]
      | 2, _ => simp [madeCells]
  rw [run_make w 29 36 i (.agg #[.int .i64 0, .int .i64 0, .slice none 0 0]) Tryz.underlying29 hi hz0 .i64 .i64 1 1 (by decide) (Int.le_refl _) (by rw [hz2]; decide) (by decide), e]
  rfl
set_option maxHeartbeats 16000000 in
set_option maxRecDepth 100000 in
set_option linter.unusedSimpArgs false in
theorem rules_any (v : Value) (F E L S : Int) (qs : List Rat) (w : World) (h : LawIs w v qs) (hq : ∀ j, j < qs.length → RS qs[j]! 1) (hlen : qs.length ≤ 6) (hF : 0 ≤ F ∧ F ≤ 1000) (hE : 0 ≤ E ∧ E ≤ 1000) (hL : 0 ≤ L ∧ L ≤ 1000) (hS : 0 ≤ S ∧ S ≤ 1000) :
    Calls Tryz.prog 6 #[.agg #[v, .int .i64 F, .int .i64 E, .int .i64 L, .int .i64 S], .int .i64 1] w (RulesPost qs F E L S w) := by
  have HL := hide h
  obtain ⟨va, vc, rfl, hv1, hv2, _⟩ := h
  obtain ⟨v, hv⟩ : ∃ v, Value.slice va qs.length vc = v := ⟨_, rfl⟩
  rw [hv] at HL ⊢
  have b1 := alloc_below w (.cells #[v, .int .i64 F, .int .i64 E, .int .i64 L, .int .i64 S] 28)
  have X0 : ShopAt (w.alloc (.cells #[v, .int .i64 F, .int .i64 E, .int .i64 L, .int .i64 S] 28)) w.heap.size v F E L S := heap_alloc_new w _
  obtain ⟨W1, hW1⟩ : ∃ W, w.alloc (.cells #[v, .int .i64 F, .int .i64 E, .int .i64 L, .int .i64 S] 28) = W := ⟨_, rfl⟩
  rw [hW1] at b1 X0
  have HC0 := hide (scheck_any v F E L S qs W1 ((unhide HL).below b1) hq hlen hF hE hL hS)
  obtain ⟨c0, c1, c2, c3, c4⟩ := X0.cells
  have HX := hide X0
  have HB1 := hide b1
  have HRU : Hid (∀ W, Below w.heap.size w W → Calls Tryz.prog 17 #[.agg #[v, .int .i64 F, .int .i64 E, .int .i64 L, .int .i64 S], .func (.func 16) #[] #[]] W (RuPost qs (fun _ => 0) F E L S W)) := fun W hW =>
    rule_any v F E L S 16 #[] (fun _ => 0) 1 qs W ((unhide HL).below hW) (by omega) hL hS hq egZer (fun _ _ _ => RS.zero) (by decide) hE hF (fun x _ _ W' _ => zer_any x W')
  by_cases hc : chk qs = 0
  case neg =>
    have HNZ := hide hc
    obtain ⟨k, hk⟩ : ∃ k, chk qs = k := ⟨_, rfl⟩
    have HK := hide hk
    rw [hk] at hc HC0
    rw [errV_not hc] at HC0
    have q5 : (k == 0) = false := by simpa using hc
    clear hk b1 X0 HL hq hF hE hL hS hv hv1 hv2 hlen
    go_enter Tryz.func6, Tryz.ntmps6
    go_wp2_with fail
    clear hW1
    refine (unhide HC0).mono ?_
    rintro e_ w2 ⟨rfl, hb⟩
    have HB2 := hide (below_step (unhide HB1) hb)
    clear hb
    go_wp2
    go_ret2
    exact ⟨unhide HB2, Or.inl ⟨unhide HNZ, by rw [unhide HK]; rfl⟩⟩
  rw [hc, errV_zero] at HC0
  have HCZ := hide hc
  clear b1 X0 HL hq hF hE hL hS hc hv hv1 hv2 hlen
  go_enter Tryz.func6, Tryz.ntmps6
  go_wp2_with fail
  clear hW1
  refine (unhide HC0).mono ?_
  rintro e_ w2 ⟨rfl, hb⟩
  have hB2 := below_step (unhide HB1) hb
  have X2 := (unhide HX).keep hb
  have mk := make_rule w2
  have a3 := alloc_below w2 (.cells #[.int .i64 0, .int .i64 0, .slice none 0 0] 36)
  have N3 := heap_alloc_new w2 (.cells #[.int .i64 0, .int .i64 0, .slice none 0 0] 36)
  obtain ⟨W3, hW3⟩ : ∃ W, w2.alloc (.cells #[.int .i64 0, .int .i64 0, .slice none 0 0] 36) = W := ⟨_, rfl⟩
  obtain ⟨g3, s3⟩ : ∃ g, w2.heap.size = g := ⟨_, rfl⟩
  rw [hW3] at mk a3 N3
  rw [s3] at mk N3
  have HG3 : Hid (w.heap.size ≤ g3) := by show _ ≤ _; rw [← s3]; exact hB2.size
  have HB3 := hide (below_step hB2 a3)
  have HX3 := hide (X2.keep a3)
  have HN3 := hide N3
  clear hb hB2 X2 a3 N3 c0 c1 c2 c3 c4 HC0 HB1 HX hW3 s3
  go_wp2_with fail
  clear mk
  go_loopw [26, 8] (fun vi vb wr => (vi = .int .i64 0 ∧ vb = .func (.func 16) #[] #[] ∧ wr = W3) ∨ (vi = .int .i64 1 ∧ ∃ gC, Below w.heap.size w wr ∧ wr.cell? ⟨g3, 2, none⟩ = some (.slice (some ⟨gC, 0, none⟩) 81 81) ∧ g3 < wr.heap.size ∧ LawIs wr (.slice (some ⟨gC, 0, none⟩) 81 81) (rowQ (cO qs (fun _ => 0) F E L S) 81))) (fun vi _ _ => 1 - (intOf vi).toNat)
  case atStart => exact Or.inl ⟨rfl, rfl, rfl⟩
  case round =>
    rcases hrel with ⟨rfl, rfl, rfl⟩ | ⟨rfl, gC, q1, q2, q3, q4⟩
    · obtain ⟨c0, c1, c2, c3, c4⟩ := (unhide HX3).cells
      have C4 := hide (unhide HRU wr (unhide HB3))
      go_wp2_with fail
      refine (unhide C4).mono ?_
      rintro e_ w4 ⟨lo, hi, gC, rfl, hgC, hlaw, hb4⟩
      have n4 := heap_kept (unhide HN3) hb4
      have r0 : w4.cell? ⟨g3, 0, none⟩ = some (.int .i64 0) := by simp [World.cell?, n4]
      have r1 : w4.cell? ⟨g3, 1, none⟩ = some (.int .i64 0) := by simp [World.cell?, n4]
      have r2 : w4.cell? ⟨g3, 2, none⟩ = some (.slice none 0 0) := by simp [World.cell?, n4]
      have q0 : w4.frozen? ⟨g3, 0, none⟩ = false := by simp [World.frozen?, n4]
      have q1 : w4.frozen? ⟨g3, 1, none⟩ = false := by simp [World.frozen?, n4]
      have q2 : w4.frozen? ⟨g3, 2, none⟩ = false := by simp [World.frozen?, n4]
      have T5 : Tch w4 (((w4.setCell ⟨g3, 0, none⟩ (.int .i64 lo)).setCell ⟨g3, 1, none⟩ (.int .i64 hi)).setCell ⟨g3, 2, none⟩ (.slice (some ⟨gC, 0, none⟩) 81 81)) g3 :=
        ⟨fun k hk => by rw [Below.heap_setCell _ _ _ _ hk, Below.heap_setCell _ _ _ _ hk, Below.heap_setCell _ _ _ _ hk], by simp [World.setCell], ⟨_, n4, noWordR _ _ _ _ _ _ _⟩⟩
      have FB := (((below_step (unhide HB3) hb4).setCell (p := ⟨g3, 0, none⟩) (unhide HG3) (.int .i64 lo)).setCell (p := ⟨g3, 1, none⟩) (unhide HG3) (.int .i64 hi)).setCell (p := ⟨g3, 2, none⟩) (unhide HG3) (.slice (some ⟨gC, 0, none⟩) 81 81)
      have hg3l : g3 < wr.heap.size := (Array.getElem?_eq_some_iff.1 (unhide HN3)).1
      have FL := law_tch hlaw T5 (by omega)
      have FX : (((w4.setCell ⟨g3, 0, none⟩ (.int .i64 lo)).setCell ⟨g3, 1, none⟩ (.int .i64 hi)).setCell ⟨g3, 2, none⟩ (.slice (some ⟨gC, 0, none⟩) 81 81)).heap[g3]? = some (.cells #[.int .i64 lo, .int .i64 hi, .slice (some ⟨gC, 0, none⟩) 81 81] 36) := by
        simp only [setCell_eq, mapBlock, Array.getElem?_modify, n4, if_true, Option.map_some, onCells]
        rfl
      obtain ⟨W5, hW5⟩ : ∃ W, ((w4.setCell ⟨g3, 0, none⟩ (.int .i64 lo)).setCell ⟨g3, 1, none⟩ (.int .i64 hi)).setCell ⟨g3, 2, none⟩ (.slice (some ⟨gC, 0, none⟩) 81 81) = W := ⟨_, rfl⟩
      rw [hW5] at FB FL FX
      have x2 : W5.cell? ⟨g3, 2, none⟩ = some (.slice (some ⟨gC, 0, none⟩) 81 81) := by simp [World.cell?, FX]
      have a6 := alloc_below W5 (.cells #[.slice (some ⟨gC, 0, none⟩) 81 81] 23)
      have FX6 := heap_kept FX a6
      have FB6 := below_step FB a6
      have FL6 := FL.below a6
      obtain ⟨W6, hW6⟩ : ∃ W, W5.alloc (.cells #[.slice (some ⟨gC, 0, none⟩) 81 81] 23) = W := ⟨_, rfl⟩
      rw [hW6] at FX6 FB6 FL6
      have HFIN : Hid (Below w.heap.size w W6 ∧ W6.cell? ⟨g3, 2, none⟩ = some (.slice (some ⟨gC, 0, none⟩) 81 81) ∧ g3 < W6.heap.size ∧ LawIs W6 (.slice (some ⟨gC, 0, none⟩) 81 81) (rowQ (cO qs (fun _ => 0) F E L S) 81)) := ⟨FB6, by simp [World.cell?, FX6], (Array.getElem?_eq_some_iff.1 FX6).1, FL6⟩
      clear hgC hlaw hb4 n4 T5 FB FL FX a6 FX6 FB6 FL6 c0 c1 c2 c3 c4 C4 hg3l
      go_wp2
      exact ⟨Or.inr ⟨rfl, gC, unhide HFIN⟩, by simp [intOf]⟩
    · have HFIN : Hid (Below w.heap.size w wr ∧ wr.cell? ⟨g3, 2, none⟩ = some (.slice (some ⟨gC, 0, none⟩) 81 81) ∧ g3 < wr.heap.size ∧ LawIs wr (.slice (some ⟨gC, 0, none⟩) 81 81) (rowQ (cO qs (fun _ => 0) F E L S) 81)) := ⟨q1, q2, q3, q4⟩
      clear q1 q2 q3 q4
      go_wp2
      go_ret2
      exact ⟨(unhide HFIN).1, Or.inr ⟨unhide HCZ, g3, gC, rfl, (unhide HFIN).2.1, (unhide HFIN).2.2.1, (unhide HFIN).2.2.2⟩⟩
end Go.Proofs.YtohkmkoklhnnlaaGreatDoor
