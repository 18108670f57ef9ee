/- WalkRuined: the law's walk. -/
import Derived.Test.YtdicbnchkfclaaaGreatDoorV5
import Derived.Test.YtdicbnchkfclaaaGreatDoorK1
import Derived.Test.YtdicbnchkfclaaaGreatDoorW25
import Derived.Test.YtdicbnchkfclaaaGreatDoorT1
namespace Go.Proofs.YtdicbnchkfclaaaGreatDoor
open Go.RowKit Go.Sort Go.Shelf

theorem qtext_one : qtext 1 = [49] := by first | decide +kernel | kernel_rfl | simp [qtext, upperText, Lib.decDigits]

theorem take_push' {l : List Rat} {i : Nat} (h : i < l.length) : l.take i ++ [l[i]!] = l.take (i + 1) := by
  rw [List.take_add_one, List.getElem?_eq_getElem h]
  simp [h]

theorem RowAt.some' {wr : World} {B : Nat} {v : Value} {ts : List Tri} {qs : List Rat} (h : RowAt wr B v ts qs) (h0 : 0 < ts.length) : ∃ g c, v = .slice (some ⟨g, 0, none⟩) ts.length c := by
  rcases h.own.2 with ⟨rfl, e⟩ | ⟨g, cap, cur, rfl, _⟩
  · omega
  · exact ⟨g, cap, rfl⟩

/-- Two rows, one more to each: how far it is. -/
structure AppI (bf w0 : World) (B : Nat) (u6 u7 : Value) (tl tt : List Tri) (Ls Ts : List Rat) (ta tb : Tri) (qa qb : Rat) (b5 b9 b10 : Nat) (tu : Tri) (u : Rat) (c : Nat) (l : Bool) (w : World) (s1 s2 s3 : Value) : Prop where
  bl : Below bf.heap.size bf w
  lo : w0.heap.size ≤ w.heap.size
  x5 : BoxIs w b5 tu u
  x9 : BoxIs w b9 ta qa
  x10 : BoxIs w b10 tb qb
  row1 : c ≤ 1 → RowAt w B u6 tl Ls
  done1 : 2 ≤ c → ∃ g cap, s2 = .slice (some ⟨g, 0, none⟩) (tl.length + 1) cap ∧ RowAt w B s2 (tl ++ [ta]) (Ls ++ [qa]) ∧ (u6.ownBlock = some g ∨ w0.heap.size ≤ g)
  row2 : RowAt w B u7 tt Ts
  new1 : c = 1 → ∃ g, s1 = .slice (some ⟨g, 0, none⟩) 1 1 ∧ w0.heap.size ≤ g ∧ BoxIs w g ta qa
  new2 : l = true → ∃ g, s3 = .slice (some ⟨g, 0, none⟩) 1 1 ∧ w0.heap.size ≤ g ∧ BoxIs w g tb qb

theorem AppI.alloc1 {bf w0 : World} {B : Nat} {u6 u7 : Value} {tl tt : List Tri} {Ls Ts : List Rat} {ta tb : Tri} {qa qb : Rat} {b5 b9 b10 : Nat} {tu : Tri} {u : Rat} {l : Bool} {w : World} {s1 s2 s3 : Value} (J : AppI bf w0 B u6 u7 tl tt Ls Ts ta tb qa qb b5 b9 b10 tu u 0 l w s1 s2 s3) :
    AppI bf w0 B u6 u7 tl tt Ls Ts ta tb qa qb b5 b9 b10 tu u 1 l (w.alloc (.cells #[.bool ta.s, .slice ta.a1 ta.n1 ta.c1, .slice ta.a2 ta.n2 ta.c2] 27)) (.slice (some ⟨w.heap.size, 0, none⟩) 1 1) s2 s3 := by
  have hb := alloc_below w (.cells #[.bool ta.s, .slice ta.a1 ta.n1 ta.c1, .slice ta.a2 ta.n2 ta.c2] 27)
  exact ⟨below_step J.bl hb, Nat.le_trans J.lo hb.size, J.x5.keep hb, J.x9.keep hb, J.x10.keep hb, fun _ => (J.row1 (by decide)).keep hb, fun h => absurd h (by decide), J.row2.keep hb, fun _ => ⟨_, rfl, J.lo, BoxIs.new J.x9.2⟩, fun h => by
    obtain ⟨g, e, h1, h2⟩ := J.new2 h
    exact ⟨g, e, h1, h2.keep hb⟩⟩

theorem AppI.alloc2 {bf w0 : World} {B : Nat} {u6 u7 : Value} {tl tt : List Tri} {Ls Ts : List Rat} {ta tb : Tri} {qa qb : Rat} {b5 b9 b10 : Nat} {tu : Tri} {u : Rat} {c : Nat} {w : World} {s1 s2 s3 : Value} (J : AppI bf w0 B u6 u7 tl tt Ls Ts ta tb qa qb b5 b9 b10 tu u c false w s1 s2 s3) :
    AppI bf w0 B u6 u7 tl tt Ls Ts ta tb qa qb b5 b9 b10 tu u c true (w.alloc (.cells #[.bool tb.s, .slice tb.a1 tb.n1 tb.c1, .slice tb.a2 tb.n2 tb.c2] 27)) s1 s2 (.slice (some ⟨w.heap.size, 0, none⟩) 1 1) := by
  have hb := alloc_below w (.cells #[.bool tb.s, .slice tb.a1 tb.n1 tb.c1, .slice tb.a2 tb.n2 tb.c2] 27)
  refine ⟨below_step J.bl hb, Nat.le_trans J.lo hb.size, J.x5.keep hb, J.x9.keep hb, J.x10.keep hb, fun h => (J.row1 h).keep hb, fun h => ?_, J.row2.keep hb, fun h => ?_, fun _ => ⟨_, rfl, J.lo, BoxIs.new J.x10.2⟩⟩
  · obtain ⟨g, cap, e, h1, h2⟩ := J.done1 h
    exact ⟨g, cap, e, h1.keep hb, h2⟩
  · obtain ⟨g, e, h1, h2⟩ := J.new1 h
    exact ⟨g, e, h1, h2.keep hb⟩

theorem AppI.push1 {bf w0 : World} {B : Nat} {u6 u7 : Value} {tl tt : List Tri} {Ls Ts : List Rat} {ta tb : Tri} {qa qb : Rat} {b5 b9 b10 : Nat} {tu : Tri} {u : Rat} {l : Bool} {w w' : World} {s1 s2 s3 : Value} {g cap H : Nat} (J : AppI bf w0 B u6 u7 tl tt Ls Ts ta tb qa qb b5 b9 b10 tu u 1 l w s1 s2 s3)
    (hblk : ∀ g, u6.ownBlock = some g → bf.heap.size ≤ g ∧ g < w0.heap.size ∧ b5 ≠ g ∧ b9 ≠ g ∧ b10 ≠ g) (hap : ∀ g, u6.ownBlock = some g → u7.ownBlock ≠ some g)
    (own : w'.ownsRow B 27 3 (.slice (some ⟨g, 0, none⟩) (tl.length + 1) cap) (tl.length + 1) (tcells tl ++ ta.cells)) (hg : w.grownBy w' u6.ownBlock) (hat : u6.ownBlock = some g ∨ g = H) (hH : w.heap.size = H) (hn : Wordless w' g) :
    AppI bf w0 B u6 u7 tl tt Ls Ts ta tb qa qb b5 b9 b10 tu u 2 l w' s1 (.slice (some ⟨g, 0, none⟩) (tl.length + 1) cap) s3 := by
  have r1 := J.row1 (by decide)
  refine ⟨Below.grown J.bl hg J.bl.size (fun k h => (hblk k h).1), Nat.le_trans J.lo hg.size, J.x5.far hg r1.no (fun h => (hblk _ h).2.2.1 rfl), J.x9.far hg r1.no (fun h => (hblk _ h).2.2.2.1 rfl), J.x10.far hg r1.no (fun h => (hblk _ h).2.2.2.2 rfl), fun h => absurd h (by decide), fun _ => ⟨g, cap, rfl, r1.push J.x9.2 own hg hn, ?_⟩, J.row2.far hg r1.no (fun g h1 h2 => hap g h2 h1), fun h => absurd h (by decide), fun h => ?_⟩
  · rcases hat with h | h
    · exact Or.inl h
    · exact Or.inr (by rw [h, ← hH]; exact J.lo)
  · obtain ⟨g', e, h1, h2⟩ := J.new2 h
    exact ⟨g', e, h1, h2.far hg r1.no (fun h => by have := (hblk _ h).2.1; omega)⟩

theorem news_box {w : World} {b : Nat} {t : Tri} {q : Rat} (h : BoxIs w b t q) : ∀ j u, t.cells[j]? = some u → w.cell? ((⟨b, 0, none⟩ : Addr).add j) = some u :=
  World.news_of_block (cs := #[.bool t.s, .slice t.a1 t.n1 t.c1, .slice t.a2 t.n2 t.c2]) (t := 27) (fr := (0, 0)) h.1

def lostL (u : Rat) (G : Nat) : List Rat := (List.range (G + 1)).map (lostv u G)
def timesL (u : Rat) (G : Nat) : List Rat := (List.range (G + 1)).map (timesv u G)
theorem lostL_length (u : Rat) (G : Nat) : (lostL u G).length = G + 1 := by simp [lostL]
theorem timesL_length (u : Rat) (G : Nat) : (timesL u G).length = G + 1 := by simp [timesL]
theorem lostL_get {u : Rat} {G i : Nat} (h : i ≤ G) : (lostL u G)[i]! = lostv u G i := by
  have : i < (lostL u G).length := by rw [lostL_length]; omega
  rw [List.getElem!_eq_getElem?_getD, List.getElem?_eq_getElem this]
  simp [lostL]
theorem timesL_get {u : Rat} {G i : Nat} (h : i ≤ G) : (timesL u G)[i]! = timesv u G i := by
  have : i < (timesL u G).length := by rw [timesL_length]; omega
  rw [List.getElem!_eq_getElem?_getD, List.getElem?_eq_getElem this]
  simp [timesL]

set_option maxHeartbeats 16000000 in
set_option maxRecDepth 100000 in
set_option linter.unusedSimpArgs false in
theorem walkRuined_any (a x y : Int) (w : World) (htab : Tab w) (hg : ErrTy w) (ix : I64 x) (iy : I64 y) :
    Calls Tryz.prog 4 #[.int .i64 a, .agg #[.int .i64 x, .int .i64 y]] w fun e w' => e = .returned (.bool true) ∧ Below w.heap.size w w' := by
  have HF : Hid (∀ W, Calls Tryz.prog 5 #[.agg #[.int .i64 x, .int .i64 y]] W fun e w' => ∃ v, e = .returned v ∧ RatIs w' v (pq (x, y)) ∧ Below W.heap.size W w') := fun W => f_any x y ix.1 ix.2 iy.1 iy.2 W
  have RSU := hide (pq_RS (p := (x, y)) ix iy)
  generalize pq (x, y) = u at *
  have HTAB := hide htab
  have HERR := hide hg
  have HB_0 := hide (alloc_below w (.cells #[.int .i64 x, .int .i64 y] 23))
  have KKe : KK = 1099511627776 := rfl
  clear htab hg ix iy
  go_enter Tryz.func4, Tryz.ntmps4
  go_wp2_with fail
  refine (pick_any a 20 (by decide) (by decide) _).mono ?_
  rintro e w1 ⟨k, rfl, hk, rfl⟩
  obtain ⟨G, hG⟩ : ∃ G : Nat, k + 1 = G := ⟨_, rfl⟩
  have hG1 : 1 ≤ G := by omega
  have hG2 : G ≤ 20 := by omega
  have hkG : (1 : Int) + (k : Int) = (G : Int) := by omega
  go_wp2_with fail
  clear hkG hG hk
  refine (unhide HF _).mono ?_
  rintro e w_1 ⟨v5, rfl, hv5, hbx⟩
  obtain ⟨tu, rfl, hr_1⟩ := tri_of hv5
  simp only [Tri.val]
  have HG_b5 := hide (below_step (unhide HB_0) hbx).size
  have hb_1 := below_step hbx (alloc_below w_1 (.cells #[.bool tu.s, .slice tu.a1 tu.n1 tu.c1, .slice tu.a2 tu.n2 tu.c2] 27))
  have HB_2 := hide (below_step (unhide HB_0) hb_1)
  clear HB_0
  have HX_b5_1 := hide (BoxIs.new hr_1)
  obtain ⟨Wb5, hW_1⟩ : ∃ W, w_1.alloc (.cells #[.bool tu.s, .slice tu.a1 tu.n1 tu.c1, .slice tu.a2 tu.n2 tu.c2] 27) = W := ⟨_, rfl⟩
  obtain ⟨b5, hc_1⟩ : ∃ b, w_1.heap.size = b := ⟨_, rfl⟩
  rw [hW_1] at HB_2 HX_b5_1
  rw [hc_1] at HX_b5_1 HG_b5
  clear hv5 hr_1 hbx hb_1
  go_wp2_with fail
  clear hW_1 hc_1
  refine (half_any _ (tab_below (unhide HTAB) (unhide HB_2))).mono ?_
  rintro e w_3 ⟨rfl, hbx⟩
  have HB_4 := hide (below_step (unhide HB_2) hbx)
  have HX_b5_4 := hide ((unhide HX_b5_1).keep hbx)
  clear HB_2 HX_b5_1
  clear hbx
  go_wp2_with fail
  have HBf := hide (unhide HB_4)
  have HXf := hide (unhide HX_b5_4)
  clear HB_4 HX_b5_4
  by_cases good : 0 < u.num ∧ u.num < u.den
  · skip
    obtain ⟨good0, good1⟩ := good
    have HRU : Hid (∀ W v (n : Nat), RatIs W v u → n ≤ G → Calls Tryz.prog 15 #[.int .i64 (n : Int), .int .i64 (G : Int), v] W fun e w' => ∃ a b, e = .returned (.tuple #[a, b, .nilIface]) ∧ RatIs w' a (lostv u G n) ∧ RatIs w' b (timesv u G n) ∧ Below W.heap.size W w') := fun W v n hv hn => ruin_any v u G n W hv (unhide RSU) hG1 hG2 hn good0 good1
    have lgL := lostL_length u G
    have lgT := timesL_length u G
    have HGE : Hid (∀ i, i ≤ G → (lostL u G)[i]! = lostv u G i ∧ (timesL u G)[i]! = timesv u G i) := fun i hi => ⟨lostL_get hi, timesL_get hi⟩
    obtain ⟨Ls, hLs⟩ : ∃ l, lostL u G = l := ⟨_, rfl⟩
    obtain ⟨Ts, hTs⟩ : ∃ l, timesL u G = l := ⟨_, rfl⟩
    rw [hLs] at lgL HGE
    rw [hTs] at lgT HGE
    clear hLs hTs
    go_loopw [6, 7, 8] (fun v6 v7 vn wr => ∃ (n : Nat) (tl tt : List Tri), vn = .int .i64 (n : Int) ∧ n ≤ G + 1 ∧ Below w_3.heap.size w_3 wr ∧ BoxIs wr b5 tu u ∧ RowAt wr w_3.heap.size v6 tl (Ls.take n) ∧ RowAt wr w_3.heap.size v7 tt (Ts.take n) ∧ (∀ g, v6.ownBlock = some g → v7.ownBlock ≠ some g)) (fun _ _ vn _ => G + 1 - (intOf vn).toNat)
    case atStart => exact ⟨0, [], [], rfl, Nat.zero_le _, Below.refl _ _, unhide HXf, RowAt.nil _ _, RowAt.nil _ _, fun g h => by cases h⟩
    case round =>
      obtain ⟨n, tl, tt, rfl, hn, bl, X5, R6, R7, hap⟩ := hrel
      have HBf5 := hide (unhide HXf).lt
      have HB_r := hide bl
      have HX_b5_r := hide X5
      have HR6 := hide R6
      have HR7 := hide R7
      have HAP := hide hap
      clear bl X5 R6 R7 hap HXf
      by_cases hlt : n ≤ G
      · have i1 : (n : Int) ≤ (G : Int) := by omega
        have HB_0 := hide (Below.refl wr.heap.size wr)
        obtain ⟨cb5_0, cb5_1, cb5_2⟩ := (unhide HX_b5_r).cells _ (Below.refl _ _)
        go_wp2_with fail
        clear cb5_0 cb5_1 cb5_2
        refine (unhide HRU _ _ n (unhide HX_b5_r).2 hlt).mono ?_
        rintro e w_801 ⟨x1, x2, rfl, hx1, hx2, hbx⟩
        obtain ⟨ta, rfl, hr_801⟩ := tri_of hx1
        obtain ⟨tb, rfl, hr2_801⟩ := tri_of hx2
        simp only [Tri.val]
        have HL_b5_b9 := hide (Nat.lt_of_lt_of_le (unhide HX_b5_r).lt hbx.size)
        have HL_b5_b10 := hide (Nat.lt_succ_of_lt (unhide HL_b5_b9))
        have HG_b9 := hide (below_step (unhide HB_0) hbx).size
        have HG_b10 := hide (Nat.le_succ_of_le (unhide HG_b9))
        have HL_b9_b10 := hide (Nat.lt_succ_self w_801.heap.size)
        have hb_801 := below_step (below_step hbx (alloc_below w_801 (.cells #[.bool ta.s, .slice ta.a1 ta.n1 ta.c1, .slice ta.a2 ta.n2 ta.c2] 27))) (alloc_below _ (.cells #[.bool tb.s, .slice tb.a1 tb.n1 tb.c1, .slice tb.a2 tb.n2 tb.c2] 27))
        have HB_802 := hide (below_step (unhide HB_0) hb_801)
        have HX_b5_802 := hide ((unhide HX_b5_r).keep hb_801)
        clear HB_0 HX_b5_r
        have HX_b9_801 := hide ((BoxIs.new hr_801).keep (alloc_below _ (.cells #[.bool tb.s, .slice tb.a1 tb.n1 tb.c1, .slice tb.a2 tb.n2 tb.c2] 27)))
        have HX_b10_801 := hide (BoxIs.new (hr2_801.below (alloc_below w_801 (.cells #[.bool ta.s, .slice ta.a1 ta.n1 ta.c1, .slice ta.a2 ta.n2 ta.c2] 27))))
        rw [alloc_size] at HX_b10_801
        obtain ⟨Wb10, hW_801⟩ : ∃ W, (w_801.alloc (.cells #[.bool ta.s, .slice ta.a1 ta.n1 ta.c1, .slice ta.a2 ta.n2 ta.c2] 27)).alloc (.cells #[.bool tb.s, .slice tb.a1 tb.n1 tb.c1, .slice tb.a2 tb.n2 tb.c2] 27) = W := ⟨_, rfl⟩
        obtain ⟨b9, hc_801⟩ : ∃ b, w_801.heap.size = b := ⟨_, rfl⟩
        obtain ⟨b10, hd_801⟩ : ∃ b, b9 + 1 = b := ⟨_, rfl⟩
        rw [hW_801] at HB_802 HX_b5_802 HX_b9_801 HX_b10_801
        simp only [Nat.succ_eq_add_one] at HL_b5_b10 HG_b10 HL_b9_b10
        rw [hc_801] at HX_b9_801 HX_b10_801 HL_b5_b9 HG_b9 HL_b5_b10 HG_b10 HL_b9_b10
        rw [hd_801] at HX_b10_801 HL_b5_b10 HG_b10 HL_b9_b10
        clear hx1 hx2 hr_801 hr2_801 hbx hb_801
        have Hc_801 := hide hc_801
        have Hd_801 := hide hd_801
        clear hc_801 hd_801
        go_wp2_with fail
        rw [unhide Hc_801, unhide Hd_801]
        clear hW_801 Hc_801 Hd_801
        have bd0 : Below Wb10.heap.size Wb10 Wb10.drew := (Below.refl _ _).drew
        have J0 := below_step (unhide HB_802) bd0
        have g6 : ∀ g, u6.ownBlock = some g → w_3.heap.size ≤ g ∧ g < wr.heap.size := (unhide HR6).block
        have g7 : ∀ g, u7.ownBlock = some g → w_3.heap.size ≤ g ∧ g < wr.heap.size := (unhide HR7).block
        have l6 : tl.length = n := by rw [(unhide HR6).len, List.length_take, lgL]; omega
        have l7 : tt.length = n := by rw [(unhide HR7).len, List.length_take, lgT]; omega
        have hblk6 : ∀ g, u6.ownBlock = some g → w_3.heap.size ≤ g ∧ g < Wb10.drew.heap.size ∧ b5 ≠ g ∧ b9 ≠ g ∧ b10 ≠ g := fun g h => by
          have h1 := g6 g h
          have h2 := J0.size
          have h3 := unhide HBf5
          have h5 := unhide HG_b9
          have h6 := unhide HG_b10
          omega
        have hblk7 : ∀ g, u7.ownBlock = some g → w_3.heap.size ≤ g ∧ g < Wb10.drew.heap.size ∧ b5 ≠ g ∧ b9 ≠ g ∧ b10 ≠ g := fun g h => by
          have h1 := g7 g h
          have h2 := J0.size
          have h3 := unhide HBf5
          have h5 := unhide HG_b9
          have h6 := unhide HG_b10
          omega
        have K5 := (unhide HX_b5_802).keep bd0
        have K9 := (unhide HX_b9_801).keep bd0
        have K10 := (unhide HX_b10_801).keep bd0
        have K6 := (unhide HR6).keep J0
        have K7 := (unhide HR7).keep J0
        have KB := below_step (unhide HB_r) J0
        refine wp_region_hold (fun w' : World => (w'.cell? ⟨b9, 0, none⟩ = some (.bool ta.s) ∧ w'.cell? ⟨b9, 1, none⟩ = some (.slice ta.a1 ta.n1 ta.c1) ∧ w'.cell? ⟨b9, 2, none⟩ = some (.slice ta.a2 ta.n2 ta.c2)) ∧ w'.cell? ⟨b10, 0, none⟩ = some (.bool tb.s) ∧ w'.cell? ⟨b10, 1, none⟩ = some (.slice tb.a1 tb.n1 tb.c1) ∧ w'.cell? ⟨b10, 2, none⟩ = some (.slice tb.a2 tb.n2 tb.c2)) (by kernel_rfl) ?_
        obtain ⟨Wx, hWx⟩ : ∃ W, Wb10.drew = W := ⟨_, rfl⟩
        rw [hWx] at K5 K9 K10 K6 K7 KB hblk6 hblk7 ⊢
        have hC0 : (fun w' : World => (w'.cell? ⟨b9, 0, none⟩ = some (.bool ta.s) ∧ w'.cell? ⟨b9, 1, none⟩ = some (.slice ta.a1 ta.n1 ta.c1) ∧ w'.cell? ⟨b9, 2, none⟩ = some (.slice ta.a2 ta.n2 ta.c2)) ∧ w'.cell? ⟨b10, 0, none⟩ = some (.bool tb.s) ∧ w'.cell? ⟨b10, 1, none⟩ = some (.slice tb.a1 tb.n1 tb.c1) ∧ w'.cell? ⟨b10, 2, none⟩ = some (.slice tb.a2 tb.n2 tb.c2)) Wx := ⟨K9.cells _ (Below.refl _ _), K10.cells _ (Below.refl _ _)⟩
        have HJ : Hid (∀ s1 s2 s3, AppI w_3 Wx w_3.heap.size u6 u7 tl tt (Ls.take n) (Ts.take n) ta tb (lostv u G n) (timesv u G n) b5 b9 b10 tu u 0 false Wx s1 s2 s3) := fun s1 s2 s3 => ⟨KB, Nat.le_refl _, K5, K9, K10, fun _ => K6, fun h => absurd h (by decide), K7, fun h => absurd h (by decide), fun h => by cases h⟩
        have HBK6 := hide hblk6
        have HBK7 := hide hblk7
        clear K5 K9 K10 K6 K7 KB hWx J0 bd0 g6 g7 hblk6 hblk7 HR6 HR7 HB_r HB_802 HX_b5_802 HX_b9_801 HX_b10_801
        refine wpHold_take (i := 0) (v := ?_) rfl (by kernel_rfl) (by kernel_rfl) (by kernel_rfl) (fun _ _ _ h => h) (Or.inl ⟨by rfl, ?_⟩) hC0 ?_
        rotate_left
        · intro w hSw; clear hSw; go_simp; (try with_reducible rfl)
        (try simp only [List.getElem_toArray, List.getElem_cons_succ, List.getElem_cons_zero])
        (try simp only [Act.put, List.setIfInBounds_toArray, List.set_cons_zero, List.set_cons_succ])
        refine wpHold_take (i := 1) (v := ?_) rfl (by kernel_rfl) (by kernel_rfl) (by kernel_rfl) (fun _ _ _ h => h) (Or.inl ⟨by rfl, ?_⟩) hC0 ?_
        rotate_left
        · intro w hSw; (try dsimp only at hSw); obtain ⟨⟨z0, z1, z2⟩, z3, z4, z5⟩ := hSw; go_simp; (try with_reducible rfl)
        (try simp only [List.getElem_toArray, List.getElem_cons_succ, List.getElem_cons_zero])
        (try simp only [Act.put, List.setIfInBounds_toArray, List.set_cons_zero, List.set_cons_succ])
        refine wpHold_take (i := 4) (v := ?_) rfl (by kernel_rfl) (by kernel_rfl) (by kernel_rfl) (fun _ _ _ h => h) (Or.inl ⟨by rfl, ?_⟩) hC0 ?_
        rotate_left
        · intro w hSw; clear hSw; go_simp; (try with_reducible rfl)
        (try simp only [List.getElem_toArray, List.getElem_cons_succ, List.getElem_cons_zero])
        (try simp only [Act.put, List.setIfInBounds_toArray, List.set_cons_zero, List.set_cons_succ])
        refine wpHold_take (i := 5) (v := ?_) rfl (by kernel_rfl) (by kernel_rfl) (by kernel_rfl) (fun _ _ _ h => h) (Or.inl ⟨by rfl, ?_⟩) hC0 ?_
        rotate_left
        · intro w hSw; (try dsimp only at hSw); obtain ⟨⟨z0, z1, z2⟩, z3, z4, z5⟩ := hSw; go_simp; (try with_reducible rfl)
        (try simp only [List.getElem_toArray, List.getElem_cons_succ, List.getElem_cons_zero])
        (try simp only [Act.put, List.setIfInBounds_toArray, List.set_cons_zero, List.set_cons_succ])
        refine wpHold_listed (n := 6) (L' := (fun c l => #[true, true, decide (1 ≤ c), decide (2 ≤ c), true, true, l, false, false, false]) 0 false) (by kernel_rfl) (by kernel_rfl) ?_
        refine wpHold_name (fun a0 ha0 => ?_)
        refine two_one_any (fun c l => #[true, true, decide (1 ≤ c), decide (2 ≤ c), true, true, l, false, false, false]) 2 3 6 3 (fun c l a wz => ∃ s1 s2 s3, a = ((a0.put (some 51) s1).put (some 52) s2).put (some 55) s3 ∧ AppI w_3 Wx w_3.heap.size u6 u7 tl tt (Ls.take n) (Ts.take n) ta tb (lostv u G n) (timesv u G n) b5 b9 b10 tu u c l wz s1 s2 s3) ?_ ?_ (fun l => rfl) (fun l => rfl) (fun c => rfl) ?_ ?_ ?_ ?_ 3 0 false (by omega) (by rfl) _ _ ⟨u51, u52, u55, by subst ha0; rfl, unhide HJ _ _ _⟩
        · clear ha0
          intro c l hc
          match c, hc with
          | 0, _ => cases l <;> (show (_ : Bool) = _; kernel_rfl)
          | 1, _ => cases l <;> (show (_ : Bool) = _; kernel_rfl)
          | 2, _ => cases l <;> (show (_ : Bool) = _; kernel_rfl)
        · clear ha0
          intro c l hc
          match c, hc with
          | 0, _ => cases l <;> (intro _; show (_ : Bool) = _; kernel_rfl)
          | 1, _ => cases l <;> (intro _; show (_ : Bool) = _; kernel_rfl)
          | 2, _ => cases l <;> (intro h; first | (show (_ : Bool) = _; kernel_rfl) | exact absurd h (by decide))
        · rintro l a wq ⟨s1, s2, s3, rfl, J⟩
          subst ha0
          refine wpOp_step rfl (fun K hK => ?_)
          (try simp only [Act.put, List.setIfInBounds_toArray, List.set_cons_zero, List.set_cons_succ] at hK ⊢)
          (try simp only [List.getElem_toArray, List.getElem_cons_succ, List.getElem_cons_zero])
          go_simp
          have J' := J.alloc1
          exact hK _ _ ⟨⟨J'.x9.cells _ (Below.refl _ _), J'.x10.cells _ (Below.refl _ _)⟩, _, s2, s3, rfl, J'⟩
        · rintro l a wq ⟨s1, s2, s3, rfl, J⟩
          subst ha0
          obtain ⟨g1, rfl, hg1, N1⟩ := J.new1 rfl
          refine wpOp_step rfl (fun K hK => ?_)
          (try simp only [Act.put, List.setIfInBounds_toArray, List.set_cons_zero, List.set_cons_succ] at hK ⊢)
          (try simp only [List.getElem_toArray, List.getElem_cons_succ, List.getElem_cons_zero])
          rw [if_pos (by kernel_rfl)]
          obtain ⟨ti, hti, hz0, hsz, hby⟩ := info_parts Tryz.infoR
          refine wp_append_tri wq _ _ _ rfl w_3.heap.size 27 ti 56 Tryz.underlying41 hti hz0 hsz hby u6 tl.length (tcells tl) rfl (J.row1 (by decide)).own (J.row1 (by decide)).no ⟨g1, 0, none⟩ 1 1 ta.cells rfl rfl (news_box N1) (tri_one ta) ta.notWord (by decide) (by rw [l6]; unfold maxLen; omega) (by rw [l6]; omega) J.bl.size wq.heap.size rfl ?_
          intro g cap w' hown hgr hat hlt4 hno4
          have J' := J.push1 (unhide HBK6) (unhide HAP) hown hgr hat rfl hno4
          exact hK _ _ ⟨⟨J'.x9.cells _ (Below.refl _ _), J'.x10.cells _ (Below.refl _ _)⟩, _, _, s3, rfl, J'⟩
        · rintro c a wq ⟨s1, s2, s3, rfl, J⟩
          subst ha0
          refine wpOp_step rfl (fun K hK => ?_)
          (try simp only [Act.put, List.setIfInBounds_toArray, List.set_cons_zero, List.set_cons_succ] at hK ⊢)
          (try simp only [List.getElem_toArray, List.getElem_cons_succ, List.getElem_cons_zero])
          go_simp
          have J' := J.alloc2
          exact hK _ _ ⟨⟨J'.x9.cells _ (Below.refl _ _), J'.x10.cells _ (Below.refl _ _)⟩, s1, s2, _, rfl, J'⟩
        · rintro a wq ⟨s1, s2, s3, rfl, J⟩
          subst ha0
          obtain ⟨g2, cp2, rfl, D1, hat1⟩ := J.done1 (by decide)
          obtain ⟨gn, rfl, hgn, N2⟩ := J.new2 rfl
          (try simp only [Act.put, List.setIfInBounds_toArray, List.set_cons_zero, List.set_cons_succ])
          refine wpHold_one (k := 7) (by kernel_rfl) rfl (fun K hK => ?_)
          (try simp only [List.getElem_toArray, List.getElem_cons_succ, List.getElem_cons_zero])
          rw [if_pos (by kernel_rfl)]
          obtain ⟨ti, hti, hz0, hsz, hby⟩ := info_parts Tryz.infoR
          refine wp_append_tri wq _ _ _ rfl w_3.heap.size 27 ti 56 Tryz.underlying41 hti hz0 hsz hby u7 tt.length (tcells tt) rfl J.row2.own J.row2.no ⟨gn, 0, none⟩ 1 1 tb.cells rfl rfl (news_box N2) (tri_one tb) tb.notWord (by decide) (by rw [l7]; unfold maxLen; omega) (by rw [l7]; omega) J.bl.size wq.heap.size rfl ?_
          intro g cap w' hown hgr hat hlt4 hno4
          dsimp only
          have hb7 := unhide HBK7
          have F7 := J.row2.push J.x10.2 hown hgr hno4
          have F6 := D1.far hgr J.row2.no (fun g' h1 h2 => by
            have e : g2 = g' := by simpa [Value.ownBlock] using h1
            subst e
            rcases hat1 with h' | h'
            · exact unhide HAP _ h' h2
            · have := hb7 _ h2; omega)
          have F5 := J.x5.far hgr J.row2.no (fun h => (hb7 _ h).2.2.1 rfl)
          have F9 := J.x9.far hgr J.row2.no (fun h => (hb7 _ h).2.2.2.1 rfl)
          have F10 := J.x10.far hgr J.row2.no (fun h => (hb7 _ h).2.2.2.2 rfl)
          have FB := Below.grown J.bl hgr J.bl.size (fun k h => (hb7 k h).1)
          have hap' : g2 ≠ g := fun e => by
            subst e
            rcases hat with h | h
            · rcases hat1 with h' | h'
              · exact unhide HAP _ h' h
              · have := hb7 _ h; omega
            · have h1 := D1.block g2 (by simp [Value.ownBlock])
              omega
          have hC1 : (fun w' : World => (w'.cell? ⟨b9, 0, none⟩ = some (.bool ta.s) ∧ w'.cell? ⟨b9, 1, none⟩ = some (.slice ta.a1 ta.n1 ta.c1) ∧ w'.cell? ⟨b9, 2, none⟩ = some (.slice ta.a2 ta.n2 ta.c2)) ∧ w'.cell? ⟨b10, 0, none⟩ = some (.bool tb.s) ∧ w'.cell? ⟨b10, 1, none⟩ = some (.slice tb.a1 tb.n1 tb.c1) ∧ w'.cell? ⟨b10, 2, none⟩ = some (.slice tb.a2 tb.n2 tb.c2)) w' := ⟨F9.cells _ (Below.refl _ _), F10.cells _ (Below.refl _ _)⟩
          have ge := unhide HGE n hlt
          rw [← ge.1, take_push' (show n < Ls.length by omega)] at F6
          rw [← ge.2, take_push' (show n < Ts.length by omega)] at F7
          rw [l6] at F6
          rw [l7] at F7
          have HF6 := hide F6
          have HF7 := hide F7
          have HF5 := hide F5
          have HFB := hide FB
          clear F6 F7 F5 F9 F10 FB J D1 N2 hown hgr hat hat1 hno4 hti hz0 hsz hby ge hb7
          refine hK.out _ _ hC1 ?_
          clear hK K
          (try simp only [Act.put, List.setIfInBounds_toArray, List.set_cons_zero, List.set_cons_succ])
          refine wpHold_one (k := 8) (by kernel_rfl) rfl (fun K hK => ?_)
          (try simp only [List.getElem_toArray, List.getElem_cons_succ, List.getElem_cons_zero])
          go_simp
          refine hK.out _ _ hC1 ?_
          clear hK K
          (try simp only [Act.put, List.setIfInBounds_toArray, List.set_cons_zero, List.set_cons_succ])
          refine wpHold_one (k := 9) (by kernel_rfl) rfl (fun K hK => ?_)
          (try simp only [List.getElem_toArray, List.getElem_cons_succ, List.getElem_cons_zero])
          go_simp
          refine hK.out _ _ hC1 ?_
          clear hK K
          (try simp only [Act.put, List.setIfInBounds_toArray, List.set_cons_zero, List.set_cons_succ])
          refine wpHold_done (by kernel_rfl) ?_ _
          clear hC1 hC0
          (try rw [l6])
          (try rw [l7])
          go_wp2_with fail
          exact ⟨⟨n + 1, tl ++ [ta], tt ++ [tb], by go_num, by omega, unhide HFB, unhide HF5, unhide HF6, unhide HF7, fun g' h1 h2 => by
            have e1 : g2 = g' := by simpa [Value.ownBlock] using h1
            have e2 : g = g' := by simpa [Value.ownBlock] using h2
            omega⟩, by simp [intOf]; omega⟩
      · obtain rfl : n = G + 1 := by omega
        have i1 : ¬ (((G + 1 : Nat) : Int) ≤ (G : Int)) := by omega
        have HLs : Hid (RowAt wr w_3.heap.size u6 tl Ls) := by
          have h := unhide HR6
          rw [List.take_of_length_le (by omega)] at h
          exact h
        have HTs : Hid (RowAt wr w_3.heap.size u7 tt Ts) := by
          have h := unhide HR7
          rw [List.take_of_length_le (by omega)] at h
          exact h
        have l6 : tl.length = G + 1 := by rw [(unhide HLs).len, lgL]
        have l7 : tt.length = G + 1 := by rw [(unhide HTs).len, lgT]
        obtain ⟨g6, c6, e6⟩ := (unhide HLs).some' (by omega)
        obtain ⟨g7, c7, e7⟩ := (unhide HTs).some' (by omega)
        rw [l6] at e6
        rw [l7] at e7
        subst e6 e7
        have HWH : Hid (∀ W, Calls Tryz.prog 16 #[.int .i64 1] W fun e w' => ∃ v, e = .returned v ∧ RatIs w' v ((1 : Int) : Rat) ∧ Below W.heap.size W w') := fun W => whole_any 1 (by decide) (by decide) W
        have HSUB : Hid (∀ W v v' q q', RatIs W v q → RatIs W v' q' → RS q 400000 → RS q' 400000 → Calls Tryz.prog 10 #[v, v'] W fun e w' => ∃ v, e = .returned v ∧ RatIs w' v (q - q') ∧ Below W.heap.size W w') := fun W v v' q q' h h' r r' => subR_any v v' q q' W h h' 400000 r r' (by rw [KKe]; omega)
        have HMUL : Hid (∀ W v v' q q', RatIs W v q → RatIs W v' q' → RS q 400000 → RS q' 400000 → Calls Tryz.prog 9 #[v, v'] W fun e w' => ∃ v, e = .returned v ∧ RatIs w' v (q * q') ∧ Below W.heap.size W w') := fun W v v' q q' h h' r r' => mulR_any v v' q q' W h h' 400000 r r' (by rw [KKe]; omega)
        have HADD : Hid (∀ W v v' q q', RatIs W v q → RatIs W v' q' → RS q 400000 → RS q' 400000 → Calls Tryz.prog 8 #[v, v'] W fun e w' => ∃ v, e = .returned v ∧ RatIs w' v (q + q') ∧ Below W.heap.size W w') := fun W v v' q q' h h' r r' => addR_any v v' q q' W h h' 400000 r r' (by rw [KKe]; omega)
        have HRU1 : Hid (RS u 400000) := (unhide RSU).mono (by omega)
        have HRO : Hid (RS ((1 : Int) : Rat) 400000) := onei_RS.mono (by omega)
        have HRD : Hid (RS (((1 : Int) : Rat) - u) 400000) := (RS.sub' onei_RS (unhide RSU)).mono (by omega)
        clear HR6 HR7 HAP HRU
        go_wp2_with fail
        have bd0 : Below wr.heap.size wr wr.drew := (Below.refl _ _).drew
        have N5 := hide ((unhide HX_b5_r).keep bd0)
        have N6 := hide ((unhide HLs).keep bd0)
        have N7 := hide ((unhide HTs).keep bd0)
        have NB := hide (below_step (unhide HB_r) bd0)
        refine wp_region_hold (fun w' : World => w'.cell? ⟨b5, 0, none⟩ = some (.bool tu.s) ∧ w'.cell? ⟨b5, 1, none⟩ = some (.slice tu.a1 tu.n1 tu.c1) ∧ w'.cell? ⟨b5, 2, none⟩ = some (.slice tu.a2 tu.n2 tu.c2)) (by kernel_rfl) ?_
        obtain ⟨Wx, hWx⟩ : ∃ W, wr.drew = W := ⟨_, rfl⟩
        rw [hWx] at N5 N6 N7 NB ⊢
        have HCC : Hid (∀ W, Below Wx.heap.size Wx W → (fun w' : World => w'.cell? ⟨b5, 0, none⟩ = some (.bool tu.s) ∧ w'.cell? ⟨b5, 1, none⟩ = some (.slice tu.a1 tu.n1 tu.c1) ∧ w'.cell? ⟨b5, 2, none⟩ = some (.slice tu.a2 tu.n2 tu.c2)) W) := fun W hW => (unhide N5).cells W hW
        have hC0 : (fun w' : World => w'.cell? ⟨b5, 0, none⟩ = some (.bool tu.s) ∧ w'.cell? ⟨b5, 1, none⟩ = some (.slice tu.a1 tu.n1 tu.c1) ∧ w'.cell? ⟨b5, 2, none⟩ = some (.slice tu.a2 tu.n2 tu.c2)) Wx := unhide HCC _ (Below.refl _ _)
        clear bd0 hWx HX_b5_r HLs HTs HB_r
        refine wpHold_take (i := 1) (v := ?_) rfl (by kernel_rfl) (by kernel_rfl) (by kernel_rfl) (fun _ _ _ h => h) (Or.inl ⟨by rfl, ?_⟩) hC0 ?_
        rotate_left
        · intro w hSw; (try dsimp only at hSw); obtain ⟨z0, z1, z2⟩ := hSw; go_simp; (try with_reducible rfl)
        (try simp only [List.getElem_toArray, List.getElem_cons_succ, List.getElem_cons_zero])
        (try simp only [Act.put, List.setIfInBounds_toArray, List.set_cons_zero, List.set_cons_succ])
        refine wpHold_listed (n := 4) (L' := (fun c l => #[decide (1 ≤ c), true, decide (2 ≤ c), l, false]) 0 false) (by kernel_rfl) (by kernel_rfl) ?_
        refine wpHold_name (fun a0 ha0 => ?_)
        refine two_one_any (fun c l => #[decide (1 ≤ c), true, decide (2 ≤ c), l, false]) 0 2 3 1 (fun c l a w => ∃ s1 s2 s3, a = ((a0.put (some 57) s1).put (some 59) s2).put (some 12) s3 ∧ TwoI ((1 : Int) : Rat) (((1 : Int) : Rat) - u) Wx c l w s1 s2 s3) ?_ ?_ (fun l => rfl) (fun l => rfl) (fun c => rfl) ?_ ?_ ?_ ?_ 3 0 false (by omega) (by rfl) _ _ ⟨undef, undef, undef, by subst ha0; rfl, Below.refl _ _, fun h => absurd h (by decide), fun h => absurd h (by decide), Or.inl ⟨rfl, rfl⟩⟩
        · clear ha0
          intro c l hc
          match c, hc with
          | 0, _ => cases l <;> (show (_ : Bool) = _; kernel_rfl)
          | 1, _ => cases l <;> (show (_ : Bool) = _; kernel_rfl)
          | 2, _ => cases l <;> (show (_ : Bool) = _; kernel_rfl)
        · clear ha0
          intro c l hc
          match c, hc with
          | 0, _ => cases l <;> (intro _; show (_ : Bool) = _; kernel_rfl)
          | 1, _ => cases l <;> (intro _; show (_ : Bool) = _; kernel_rfl)
          | 2, _ => cases l <;> (intro h; first | (show (_ : Bool) = _; kernel_rfl) | exact absurd h (by decide))
        · rintro l a wq ⟨s1, s2, s3, rfl, J⟩
          subst ha0
          refine wpOp_step rfl (fun K hK => ?_)
          (try simp only [Act.put, List.setIfInBounds_toArray, List.set_cons_zero, List.set_cons_succ] at hK ⊢)
          (try simp only [List.getElem_toArray, List.getElem_cons_succ, List.getElem_cons_zero])
          go_simp
          refine (unhide HWH wq).mono ?_
          rintro e wz ⟨v, rfl, hv, hb⟩
          refine hK _ _ ⟨unhide HCC _ (below_step J.bl hb), v, s2, s3, rfl, below_step J.bl hb, fun _ => hv, fun h => absurd h (by decide), J.al.keep hb⟩
        · rintro l a wq ⟨s1, s2, s3, rfl, J⟩
          subst ha0
          refine wpOp_step rfl (fun K hK => ?_)
          (try simp only [Act.put, List.setIfInBounds_toArray, List.set_cons_zero, List.set_cons_succ] at hK ⊢)
          (try simp only [List.getElem_toArray, List.getElem_cons_succ, List.getElem_cons_zero])
          go_simp
          refine (unhide HSUB wq _ _ _ _ (J.r1 (by decide)) ((unhide N5).2.below J.bl) (unhide HRO) (unhide HRU1)).mono ?_
          rintro e wz ⟨v, rfl, hv, hb⟩
          refine hK _ _ ⟨unhide HCC _ (below_step J.bl hb), s1, v, s3, rfl, below_step J.bl hb, fun _ => (J.r1 (by decide)).below hb, fun _ => hv, J.al.keep hb⟩
        · rintro c a wq ⟨s1, s2, s3, rfl, J⟩
          subst ha0
          refine wpOp_step rfl (fun K hK => ?_)
          (try simp only [Act.put, List.setIfInBounds_toArray, List.set_cons_zero, List.set_cons_succ] at hK ⊢)
          (try simp only [List.getElem_toArray, List.getElem_cons_succ, List.getElem_cons_zero])
          go_simp
          have hb := alloc_below wq (.cells #[.bool false, .slice none 0 0, .slice none 0 0] 27)
          refine hK _ _ ⟨unhide HCC _ (below_step J.bl hb), s1, s2, .pointer (some ⟨wq.heap.size, 0, none⟩), rfl, below_step J.bl hb, fun h => (J.r1 h).below hb, fun h => (J.r2 h).below hb, Or.inr ⟨rfl, wq.heap.size, rfl, BoxIs.new (t := zTri) (rat_zero _), J.bl.size⟩⟩
        · rintro a wq ⟨s1, s2, s3, rfl, J⟩
          subst ha0
          obtain ⟨_, b12, rfl, B12, e12⟩ := J.al.resolve_left (fun h => by cases h.1)
          obtain ⟨td, rfl, rd⟩ := tri_of (J.r2 (by decide))
          simp only [Tri.val]
          (try simp only [Act.put, List.setIfInBounds_toArray, List.set_cons_zero, List.set_cons_succ])
          have ⟨l0, l1, l2⟩ := B12.free
          have ⟨k0, k1, k2⟩ := B12.cells _ (Below.refl _ _)
          have HX12 := hide (B12.set rd)
          have YB := ((J.bl.setCell (p := ⟨b12, 0, none⟩) e12 (.bool td.s)).setCell (p := ⟨b12, 1, none⟩) e12 (.slice td.a1 td.n1 td.c1)).setCell (p := ⟨b12, 2, none⟩) e12 (.slice td.a2 td.n2 td.c2)
          have HX5 := hide ((unhide N5).keep YB)
          have HX6 := hide ((unhide N6).keep YB)
          have HX7 := hide ((unhide N7).keep YB)
          have HXB := hide (below_step (unhide NB) YB)
          have hCn : (fun w' : World => w'.cell? ⟨b5, 0, none⟩ = some (.bool tu.s) ∧ w'.cell? ⟨b5, 1, none⟩ = some (.slice tu.a1 tu.n1 tu.c1) ∧ w'.cell? ⟨b5, 2, none⟩ = some (.slice tu.a2 tu.n2 tu.c2)) _ := unhide HCC _ YB
          obtain ⟨Wy, hWy⟩ : ∃ W, ((wq.setCell ⟨b12, 0, none⟩ (.bool td.s)).setCell ⟨b12, 1, none⟩ (.slice td.a1 td.n1 td.c1)).setCell ⟨b12, 2, none⟩ (.slice td.a2 td.n2 td.c2) = W := ⟨_, rfl⟩
          rw [hWy] at HX12 HX5 HX6 HX7 HXB hCn
          clear J B12 rd N5 N6 N7 NB HCC hC0 YB
          refine wpHold_one (k := 4) (by kernel_rfl) rfl (fun K hK => ?_)
          (try simp only [List.getElem_toArray, List.getElem_cons_succ, List.getElem_cons_zero])
          go_simp
          refine hK.out _ _ hCn ?_
          clear hK K
          (try simp only [Act.put, List.setIfInBounds_toArray, List.set_cons_zero, List.set_cons_succ])
          refine wpHold_done (by kernel_rfl) ?_ _
          clear hCn l0 l1 l2 k0 k1 k2 hWy e12
          go_wp2_with fail
          go_loopw [13] (fun vn wr => ∃ n : Nat, vn = .int .i64 (n : Int) ∧ 1 ≤ n ∧ n ≤ G ∧ Below Wy.heap.size Wy wr) (fun vn _ => G - (intOf vn).toNat)
          case atStart => exact ⟨1, rfl, by omega, by omega, Below.refl _ _⟩
          case round =>
            obtain ⟨n, rfl, hn1, hn2, bl⟩ := hrel
            have HBW := hide bl
            have K5 := hide ((unhide HX5).keep bl)
            have K12 := hide ((unhide HX12).keep bl)
            have K6 := hide ((unhide HX6).keep bl)
            have K7 := hide ((unhide HX7).keep bl)
            clear bl
            by_cases hlt2 : n < G
            · obtain ⟨m, rfl⟩ : ∃ m, n = m + 1 := ⟨n - 1, by omega⟩
              have j1 : ((m + 1 : Nat) : Int) < (G : Int) := by omega
              have j2 : (m : Int) + 1 < (G : Int) := by omega
              have j3 : (m : Int) + 1 < (G : Int) + 1 := by omega
              have j4 : (m : Int) + 1 + 1 < (G : Int) + 1 := by omega
              have j5 : (m : Int) < (G : Int) + 1 := by omega
              have j6 : (0 : Int) ≤ (m : Int) + 1 := by omega
              have j7 : (0 : Int) ≤ (m : Int) + 1 + 1 := by omega
              have j8 : (0 : Int) ≤ (m : Int) := by omega
              have k1 : IntKind.i64.wrap ((m : Int) + 1 + 1) = (m : Int) + 1 + 1 := by rw [IntKind.wrap_i64]; omega
              have k2 : IntKind.i64.wrap (m : Int) = (m : Int) := by rw [IntKind.wrap_i64]; omega
              have k3 : IntKind.i64.wrap ((m : Int) + 1 - 1) = (m : Int) := by rw [IntKind.wrap_i64]; omega
              have k4 : ((m : Int) + 1 + 1).toNat = m + 1 + 1 := by omega
              have k5 : ((m : Int) + 1).toNat = m + 1 := by omega
              have hz : u ≠ 0 := fun e => by subst e; exact absurd good0 (by decide)
              have e0 := unhide HGE m (by omega)
              have e1 := unhide HGE (m + 1) (by omega)
              have e2 := unhide HGE (m + 1 + 1) (by omega)
              have HRL : Hid (RS (lostv u G m) 400000 ∧ RS (lostv u G (m + 1)) 400000 ∧ RS (lostv u G (m + 1 + 1)) 400000) := ⟨(lost_RS (unhide RSU) good0 good1 hG1 hG2 (by omega)).mono (by omega), (lost_RS (unhide RSU) good0 good1 hG1 hG2 (by omega)).mono (by omega), (lost_RS (unhide RSU) good0 good1 hG1 hG2 (by omega)).mono (by omega)⟩
              have HRT : Hid (RS (timesv u G m) 400000 ∧ RS (timesv u G (m + 1)) 400000 ∧ RS (timesv u G (m + 1 + 1)) 400000) := ⟨(times_RS (unhide RSU) good0 good1 hG1 hG2 (by omega)).mono (by omega), (times_RS (unhide RSU) good0 good1 hG1 hG2 (by omega)).mono (by omega), (times_RS (unhide RSU) good0 good1 hG1 hG2 (by omega)).mono (by omega)⟩
              have HR1 : Hid (RS (u * lostv u G (m + 1 + 1)) 400000 ∧ RS ((((1 : Int) : Rat) - u) * lostv u G m) 400000) := ⟨(RS.mul (unhide RSU) (lost_RS (unhide RSU) good0 good1 hG1 hG2 (by omega))).mono (by omega), (RS.mul (RS.sub' onei_RS (unhide RSU)) (lost_RS (unhide RSU) good0 good1 hG1 hG2 (by omega))).mono (by omega)⟩
              have HR2 : Hid (RS (u * timesv u G (m + 1 + 1)) 400000 ∧ RS ((((1 : Int) : Rat) - u) * timesv u G m) 400000 ∧ RS (((1 : Int) : Rat) + u * timesv u G (m + 1 + 1)) 400000) := ⟨(RS.mul (unhide RSU) (times_RS (unhide RSU) good0 good1 hG1 hG2 (by omega))).mono (by omega), (RS.mul (RS.sub' onei_RS (unhide RSU)) (times_RS (unhide RSU) good0 good1 hG1 hG2 (by omega))).mono (by omega), (RS.add onei_RS (RS.mul (unhide RSU) (times_RS (unhide RSU) good0 good1 hG1 hG2 (by omega)))).mono (by omega)⟩
              have HE1 : Hid (u * lostv u G (m + 1 + 1) + (((1 : Int) : Rat) - u) * lostv u G m = lostv u G (m + 1)) := lost_rec hz G m
              have HE2 : Hid (((1 : Int) : Rat) + u * timesv u G (m + 1 + 1) + (((1 : Int) : Rat) - u) * timesv u G m = timesv u G (m + 1)) := times_rec hz G m
              have a0 := (unhide K6).rat m (by omega)
              have a1 := (unhide K6).rat (m + 1) (by omega)
              have a2 := (unhide K6).rat (m + 1 + 1) (by omega)
              have b0 := (unhide K7).rat m (by omega)
              have b1 := (unhide K7).rat (m + 1) (by omega)
              have b2 := (unhide K7).rat (m + 1 + 1) (by omega)
              have ca0 := (unhide K6).cells (j := m) (by omega)
              have ca1 := (unhide K6).cells (j := m + 1) (by omega)
              have ca2 := (unhide K6).cells (j := m + 1 + 1) (by omega)
              have cb0 := (unhide K7).cells (j := m) (by omega)
              have cb1 := (unhide K7).cells (j := m + 1) (by omega)
              have cb2 := (unhide K7).cells (j := m + 1 + 1) (by omega)
              rw [e0.1] at a0
              rw [e1.1] at a1
              rw [e2.1] at a2
              rw [e0.2] at b0
              rw [e1.2] at b1
              rw [e2.2] at b2
              generalize tl[m]! = p0 at *
              generalize tl[m + 1]! = p1 at *
              generalize tl[m + 1 + 1]! = p2 at *
              generalize tt[m]! = r0 at *
              generalize tt[m + 1]! = r1 at *
              generalize tt[m + 1 + 1]! = r2 at *
              generalize lostv u G m = L0 at *
              generalize lostv u G (m + 1) = L1 at *
              generalize lostv u G (m + 1 + 1) = L2 at *
              generalize timesv u G m = T0 at *
              generalize timesv u G (m + 1) = T1 at *
              generalize timesv u G (m + 1 + 1) = T2 at *
              have HCC : Hid (∀ W, Below wr.heap.size wr W → (fun w' : World => (w'.cell? ⟨b5, 0, none⟩ = some (.bool tu.s) ∧ w'.cell? ⟨b5, 1, none⟩ = some (.slice tu.a1 tu.n1 tu.c1) ∧ w'.cell? ⟨b5, 2, none⟩ = some (.slice tu.a2 tu.n2 tu.c2)) ∧ (w'.cell? ⟨b12, 0, none⟩ = some (.bool td.s) ∧ w'.cell? ⟨b12, 1, none⟩ = some (.slice td.a1 td.n1 td.c1) ∧ w'.cell? ⟨b12, 2, none⟩ = some (.slice td.a2 td.n2 td.c2)) ∧ (w'.cell? ⟨g6, m * 3, none⟩ = some (.bool p0.s) ∧ w'.cell? ⟨g6, m * 3 + 1, none⟩ = some (.slice p0.a1 p0.n1 p0.c1) ∧ w'.cell? ⟨g6, m * 3 + 2, none⟩ = some (.slice p0.a2 p0.n2 p0.c2)) ∧ (w'.cell? ⟨g6, (m + 1) * 3, none⟩ = some (.bool p1.s) ∧ w'.cell? ⟨g6, (m + 1) * 3 + 1, none⟩ = some (.slice p1.a1 p1.n1 p1.c1) ∧ w'.cell? ⟨g6, (m + 1) * 3 + 2, none⟩ = some (.slice p1.a2 p1.n2 p1.c2)) ∧ (w'.cell? ⟨g6, (m + 1 + 1) * 3, none⟩ = some (.bool p2.s) ∧ w'.cell? ⟨g6, (m + 1 + 1) * 3 + 1, none⟩ = some (.slice p2.a1 p2.n1 p2.c1) ∧ w'.cell? ⟨g6, (m + 1 + 1) * 3 + 2, none⟩ = some (.slice p2.a2 p2.n2 p2.c2)) ∧ (w'.cell? ⟨g7, m * 3, none⟩ = some (.bool r0.s) ∧ w'.cell? ⟨g7, m * 3 + 1, none⟩ = some (.slice r0.a1 r0.n1 r0.c1) ∧ w'.cell? ⟨g7, m * 3 + 2, none⟩ = some (.slice r0.a2 r0.n2 r0.c2)) ∧ (w'.cell? ⟨g7, (m + 1) * 3, none⟩ = some (.bool r1.s) ∧ w'.cell? ⟨g7, (m + 1) * 3 + 1, none⟩ = some (.slice r1.a1 r1.n1 r1.c1) ∧ w'.cell? ⟨g7, (m + 1) * 3 + 2, none⟩ = some (.slice r1.a2 r1.n2 r1.c2)) ∧ (w'.cell? ⟨g7, (m + 1 + 1) * 3, none⟩ = some (.bool r2.s) ∧ w'.cell? ⟨g7, (m + 1 + 1) * 3 + 1, none⟩ = some (.slice r2.a1 r2.n1 r2.c1) ∧ w'.cell? ⟨g7, (m + 1 + 1) * 3 + 2, none⟩ = some (.slice r2.a2 r2.n2 r2.c2))) W) := fun W hW => ⟨(unhide K5).cells W hW, (unhide K12).cells W hW, ca0 W hW, ca1 W hW, ca2 W hW, cb0 W hW, cb1 W hW, cb2 W hW⟩
              have HA0 := hide a0
              have HA1 := hide a1
              have HA2 := hide a2
              have HB0' := hide b0
              have HB1' := hide b1
              have HB2' := hide b2
              have HTB : Hid (∀ W, Below wr.heap.size wr W → Tab W) := fun W hW => tab_below (unhide HTAB) (below_step (unhide HBf) (below_step (unhide HXB) (below_step (unhide HBW) hW)))
              have HLIK : Hid (∀ W v v' q, RatIs W v q → RatIs W v' q → RS q 400000 → Below wr.heap.size wr W → Calls Tryz.prog 7 #[v, v'] W fun e w' => e = .returned (.bool true) ∧ Below W.heap.size W w') := fun W v v' q h h' r hb => like_any v v' q W h h' 400000 r (by rw [KKe]; omega) (unhide HTB W hb)
              clear a0 a1 a2 b0 b1 b2 ca0 ca1 ca2 cb0 cb1 cb2 e0 e1 e2 HX5 HX12 HX6 HX7 hz hn1 hn2 hlt2
              go_wp2_with fail
              refine wp_region_hold (fun w' : World => (w'.cell? ⟨b5, 0, none⟩ = some (.bool tu.s) ∧ w'.cell? ⟨b5, 1, none⟩ = some (.slice tu.a1 tu.n1 tu.c1) ∧ w'.cell? ⟨b5, 2, none⟩ = some (.slice tu.a2 tu.n2 tu.c2)) ∧ (w'.cell? ⟨b12, 0, none⟩ = some (.bool td.s) ∧ w'.cell? ⟨b12, 1, none⟩ = some (.slice td.a1 td.n1 td.c1) ∧ w'.cell? ⟨b12, 2, none⟩ = some (.slice td.a2 td.n2 td.c2)) ∧ (w'.cell? ⟨g6, m * 3, none⟩ = some (.bool p0.s) ∧ w'.cell? ⟨g6, m * 3 + 1, none⟩ = some (.slice p0.a1 p0.n1 p0.c1) ∧ w'.cell? ⟨g6, m * 3 + 2, none⟩ = some (.slice p0.a2 p0.n2 p0.c2)) ∧ (w'.cell? ⟨g6, (m + 1) * 3, none⟩ = some (.bool p1.s) ∧ w'.cell? ⟨g6, (m + 1) * 3 + 1, none⟩ = some (.slice p1.a1 p1.n1 p1.c1) ∧ w'.cell? ⟨g6, (m + 1) * 3 + 2, none⟩ = some (.slice p1.a2 p1.n2 p1.c2)) ∧ (w'.cell? ⟨g6, (m + 1 + 1) * 3, none⟩ = some (.bool p2.s) ∧ w'.cell? ⟨g6, (m + 1 + 1) * 3 + 1, none⟩ = some (.slice p2.a1 p2.n1 p2.c1) ∧ w'.cell? ⟨g6, (m + 1 + 1) * 3 + 2, none⟩ = some (.slice p2.a2 p2.n2 p2.c2)) ∧ (w'.cell? ⟨g7, m * 3, none⟩ = some (.bool r0.s) ∧ w'.cell? ⟨g7, m * 3 + 1, none⟩ = some (.slice r0.a1 r0.n1 r0.c1) ∧ w'.cell? ⟨g7, m * 3 + 2, none⟩ = some (.slice r0.a2 r0.n2 r0.c2)) ∧ (w'.cell? ⟨g7, (m + 1) * 3, none⟩ = some (.bool r1.s) ∧ w'.cell? ⟨g7, (m + 1) * 3 + 1, none⟩ = some (.slice r1.a1 r1.n1 r1.c1) ∧ w'.cell? ⟨g7, (m + 1) * 3 + 2, none⟩ = some (.slice r1.a2 r1.n2 r1.c2)) ∧ (w'.cell? ⟨g7, (m + 1 + 1) * 3, none⟩ = some (.bool r2.s) ∧ w'.cell? ⟨g7, (m + 1 + 1) * 3 + 1, none⟩ = some (.slice r2.a1 r2.n1 r2.c1) ∧ w'.cell? ⟨g7, (m + 1 + 1) * 3 + 2, none⟩ = some (.slice r2.a2 r2.n2 r2.c2))) (by kernel_rfl) ?_
              have bd0 : Below wr.heap.size wr wr.drew := (Below.refl _ _).drew
              have hC0 : (fun w' : World => (w'.cell? ⟨b5, 0, none⟩ = some (.bool tu.s) ∧ w'.cell? ⟨b5, 1, none⟩ = some (.slice tu.a1 tu.n1 tu.c1) ∧ w'.cell? ⟨b5, 2, none⟩ = some (.slice tu.a2 tu.n2 tu.c2)) ∧ (w'.cell? ⟨b12, 0, none⟩ = some (.bool td.s) ∧ w'.cell? ⟨b12, 1, none⟩ = some (.slice td.a1 td.n1 td.c1) ∧ w'.cell? ⟨b12, 2, none⟩ = some (.slice td.a2 td.n2 td.c2)) ∧ (w'.cell? ⟨g6, m * 3, none⟩ = some (.bool p0.s) ∧ w'.cell? ⟨g6, m * 3 + 1, none⟩ = some (.slice p0.a1 p0.n1 p0.c1) ∧ w'.cell? ⟨g6, m * 3 + 2, none⟩ = some (.slice p0.a2 p0.n2 p0.c2)) ∧ (w'.cell? ⟨g6, (m + 1) * 3, none⟩ = some (.bool p1.s) ∧ w'.cell? ⟨g6, (m + 1) * 3 + 1, none⟩ = some (.slice p1.a1 p1.n1 p1.c1) ∧ w'.cell? ⟨g6, (m + 1) * 3 + 2, none⟩ = some (.slice p1.a2 p1.n2 p1.c2)) ∧ (w'.cell? ⟨g6, (m + 1 + 1) * 3, none⟩ = some (.bool p2.s) ∧ w'.cell? ⟨g6, (m + 1 + 1) * 3 + 1, none⟩ = some (.slice p2.a1 p2.n1 p2.c1) ∧ w'.cell? ⟨g6, (m + 1 + 1) * 3 + 2, none⟩ = some (.slice p2.a2 p2.n2 p2.c2)) ∧ (w'.cell? ⟨g7, m * 3, none⟩ = some (.bool r0.s) ∧ w'.cell? ⟨g7, m * 3 + 1, none⟩ = some (.slice r0.a1 r0.n1 r0.c1) ∧ w'.cell? ⟨g7, m * 3 + 2, none⟩ = some (.slice r0.a2 r0.n2 r0.c2)) ∧ (w'.cell? ⟨g7, (m + 1) * 3, none⟩ = some (.bool r1.s) ∧ w'.cell? ⟨g7, (m + 1) * 3 + 1, none⟩ = some (.slice r1.a1 r1.n1 r1.c1) ∧ w'.cell? ⟨g7, (m + 1) * 3 + 2, none⟩ = some (.slice r1.a2 r1.n2 r1.c2)) ∧ (w'.cell? ⟨g7, (m + 1 + 1) * 3, none⟩ = some (.bool r2.s) ∧ w'.cell? ⟨g7, (m + 1 + 1) * 3 + 1, none⟩ = some (.slice r2.a1 r2.n1 r2.c1) ∧ w'.cell? ⟨g7, (m + 1 + 1) * 3 + 2, none⟩ = some (.slice r2.a2 r2.n2 r2.c2))) wr.drew := unhide HCC _ bd0
              refine wpHold_take (i := 0) (v := ?_) rfl (by kernel_rfl) (by kernel_rfl) (by kernel_rfl) (fun _ _ _ h => h) (Or.inl ⟨by rfl, ?_⟩) hC0 ?_
              rotate_left
              · intro w hSw; clear hSw; go_simp; (try with_reducible rfl)
              (try simp only [List.getElem_toArray, List.getElem_cons_succ, List.getElem_cons_zero])
              (try simp only [Act.put, List.setIfInBounds_toArray, List.set_cons_zero, List.set_cons_succ])
              refine wpHold_take (i := 1) (v := ?_) rfl (by kernel_rfl) (by kernel_rfl) (by kernel_rfl) (fun _ _ _ h => h) (Or.inl ⟨by rfl, ?_⟩) hC0 ?_
              rotate_left
              · intro w hSw; clear hSw; go_simp; (try with_reducible rfl)
              (try simp only [List.getElem_toArray, List.getElem_cons_succ, List.getElem_cons_zero])
              (try simp only [Act.put, List.setIfInBounds_toArray, List.set_cons_zero, List.set_cons_succ])
              refine wpHold_take (i := 2) (v := ?_) rfl (by kernel_rfl) (by kernel_rfl) (by kernel_rfl) (fun _ _ _ h => h) (Or.inl ⟨by rfl, ?_⟩) hC0 ?_
              rotate_left
              · intro w hSw; clear hSw; go_simp; (try with_reducible rfl)
              (try simp only [List.getElem_toArray, List.getElem_cons_succ, List.getElem_cons_zero])
              (try simp only [Act.put, List.setIfInBounds_toArray, List.set_cons_zero, List.set_cons_succ])
              refine wpHold_take (i := 3) (v := ?_) rfl (by kernel_rfl) (by kernel_rfl) (by kernel_rfl) (fun _ _ _ h => h) (Or.inl ⟨by rfl, ?_⟩) hC0 ?_
              rotate_left
              · intro w hSw; (try dsimp only at hSw); obtain ⟨⟨z0, z1, z2⟩, ⟨z3, z4, z5⟩, ⟨z6, z7, z8⟩, ⟨z9, z10, z11⟩, ⟨z12, z13, z14⟩, ⟨z15, z16, z17⟩, ⟨z18, z19, z20⟩, z21, z22, z23⟩ := hSw; go_simp; (try with_reducible rfl)
              (try simp only [List.getElem_toArray, List.getElem_cons_succ, List.getElem_cons_zero])
              (try simp only [Act.put, List.setIfInBounds_toArray, List.set_cons_zero, List.set_cons_succ])
              refine wpHold_take (i := 4) (v := ?_) rfl (by kernel_rfl) (by kernel_rfl) (by kernel_rfl) (fun _ _ _ h => h) (Or.inl ⟨by rfl, ?_⟩) hC0 ?_
              rotate_left
              · intro w hSw; (try dsimp only at hSw); obtain ⟨⟨z0, z1, z2⟩, ⟨z3, z4, z5⟩, ⟨z6, z7, z8⟩, ⟨z9, z10, z11⟩, ⟨z12, z13, z14⟩, ⟨z15, z16, z17⟩, ⟨z18, z19, z20⟩, z21, z22, z23⟩ := hSw; go_simp; (try with_reducible rfl)
              (try simp only [List.getElem_toArray, List.getElem_cons_succ, List.getElem_cons_zero])
              (try simp only [Act.put, List.setIfInBounds_toArray, List.set_cons_zero, List.set_cons_succ])
              refine wpHold_take (i := 5) (v := ?_) rfl (by kernel_rfl) (by kernel_rfl) (by kernel_rfl) (fun _ _ _ h => h) (Or.inl ⟨by rfl, ?_⟩) hC0 ?_
              rotate_left
              · intro w hSw; clear hSw; go_simp; (try with_reducible rfl)
              (try simp only [List.getElem_toArray, List.getElem_cons_succ, List.getElem_cons_zero])
              (try simp only [Act.put, List.setIfInBounds_toArray, List.set_cons_zero, List.set_cons_succ])
              refine wpHold_take (i := 6) (v := ?_) rfl (by kernel_rfl) (by kernel_rfl) (by kernel_rfl) (fun _ _ _ h => h) (Or.inl ⟨by rfl, ?_⟩) hC0 ?_
              rotate_left
              · intro w hSw; clear hSw; go_simp; (try with_reducible rfl)
              (try simp only [List.getElem_toArray, List.getElem_cons_succ, List.getElem_cons_zero])
              (try simp only [Act.put, List.setIfInBounds_toArray, List.set_cons_zero, List.set_cons_succ])
              refine wpHold_take (i := 7) (v := ?_) rfl (by kernel_rfl) (by kernel_rfl) (by kernel_rfl) (fun _ _ _ h => h) (Or.inl ⟨by rfl, ?_⟩) hC0 ?_
              rotate_left
              · intro w hSw; clear hSw; go_simp; (try with_reducible rfl)
              (try simp only [List.getElem_toArray, List.getElem_cons_succ, List.getElem_cons_zero])
              (try simp only [Act.put, List.setIfInBounds_toArray, List.set_cons_zero, List.set_cons_succ])
              refine wpHold_take (i := 8) (v := ?_) rfl (by kernel_rfl) (by kernel_rfl) (by kernel_rfl) (fun _ _ _ h => h) (Or.inl ⟨by rfl, ?_⟩) hC0 ?_
              rotate_left
              · intro w hSw; clear hSw; go_simp; (try with_reducible rfl)
              (try simp only [List.getElem_toArray, List.getElem_cons_succ, List.getElem_cons_zero])
              (try simp only [Act.put, List.setIfInBounds_toArray, List.set_cons_zero, List.set_cons_succ])
              refine wpHold_take (i := 9) (v := ?_) rfl (by kernel_rfl) (by kernel_rfl) (by kernel_rfl) (fun _ _ _ h => h) (Or.inl ⟨by rfl, ?_⟩) hC0 ?_
              rotate_left
              · intro w hSw; (try dsimp only at hSw); obtain ⟨⟨z0, z1, z2⟩, ⟨z3, z4, z5⟩, ⟨z6, z7, z8⟩, ⟨z9, z10, z11⟩, ⟨z12, z13, z14⟩, ⟨z15, z16, z17⟩, ⟨z18, z19, z20⟩, z21, z22, z23⟩ := hSw; go_simp; (try with_reducible rfl)
              (try simp only [List.getElem_toArray, List.getElem_cons_succ, List.getElem_cons_zero])
              (try simp only [Act.put, List.setIfInBounds_toArray, List.set_cons_zero, List.set_cons_succ])
              refine wpHold_take (i := 11) (v := ?_) rfl (by kernel_rfl) (by kernel_rfl) (by kernel_rfl) (fun _ _ _ h => h) (Or.inl ⟨by rfl, ?_⟩) hC0 ?_
              rotate_left
              · intro w hSw; (try dsimp only at hSw); obtain ⟨⟨z0, z1, z2⟩, ⟨z3, z4, z5⟩, ⟨z6, z7, z8⟩, ⟨z9, z10, z11⟩, ⟨z12, z13, z14⟩, ⟨z15, z16, z17⟩, ⟨z18, z19, z20⟩, z21, z22, z23⟩ := hSw; go_simp; (try with_reducible rfl)
              (try simp only [List.getElem_toArray, List.getElem_cons_succ, List.getElem_cons_zero])
              (try simp only [Act.put, List.setIfInBounds_toArray, List.set_cons_zero, List.set_cons_succ])
              refine wpHold_take (i := 12) (v := ?_) rfl (by kernel_rfl) (by kernel_rfl) (by kernel_rfl) (fun _ _ _ h => h) (Or.inl ⟨by rfl, ?_⟩) hC0 ?_
              rotate_left
              · intro w hSw; clear hSw; go_simp; (try with_reducible rfl)
              (try simp only [List.getElem_toArray, List.getElem_cons_succ, List.getElem_cons_zero])
              (try simp only [Act.put, List.setIfInBounds_toArray, List.set_cons_zero, List.set_cons_succ])
              refine wpHold_take (i := 13) (v := ?_) rfl (by kernel_rfl) (by kernel_rfl) (by kernel_rfl) (fun _ _ _ h => h) (Or.inl ⟨by rfl, ?_⟩) hC0 ?_
              rotate_left
              · intro w hSw; clear hSw; go_simp; (try with_reducible rfl)
              (try simp only [List.getElem_toArray, List.getElem_cons_succ, List.getElem_cons_zero])
              (try simp only [Act.put, List.setIfInBounds_toArray, List.set_cons_zero, List.set_cons_succ])
              refine wpHold_take (i := 14) (v := ?_) rfl (by kernel_rfl) (by kernel_rfl) (by kernel_rfl) (fun _ _ _ h => h) (Or.inl ⟨by rfl, ?_⟩) hC0 ?_
              rotate_left
              · intro w hSw; clear hSw; go_simp; (try with_reducible rfl)
              (try simp only [List.getElem_toArray, List.getElem_cons_succ, List.getElem_cons_zero])
              (try simp only [Act.put, List.setIfInBounds_toArray, List.set_cons_zero, List.set_cons_succ])
              refine wpHold_take (i := 15) (v := ?_) rfl (by kernel_rfl) (by kernel_rfl) (by kernel_rfl) (fun _ _ _ h => h) (Or.inl ⟨by rfl, ?_⟩) hC0 ?_
              rotate_left
              · intro w hSw; clear hSw; go_simp; (try with_reducible rfl)
              (try simp only [List.getElem_toArray, List.getElem_cons_succ, List.getElem_cons_zero])
              (try simp only [Act.put, List.setIfInBounds_toArray, List.set_cons_zero, List.set_cons_succ])
              refine wpHold_take (i := 16) (v := ?_) rfl (by kernel_rfl) (by kernel_rfl) (by kernel_rfl) (fun _ _ _ h => h) (Or.inl ⟨by rfl, ?_⟩) hC0 ?_
              rotate_left
              · intro w hSw; (try dsimp only at hSw); obtain ⟨⟨z0, z1, z2⟩, ⟨z3, z4, z5⟩, ⟨z6, z7, z8⟩, ⟨z9, z10, z11⟩, ⟨z12, z13, z14⟩, ⟨z15, z16, z17⟩, ⟨z18, z19, z20⟩, z21, z22, z23⟩ := hSw; go_simp; (try with_reducible rfl)
              (try simp only [List.getElem_toArray, List.getElem_cons_succ, List.getElem_cons_zero])
              (try simp only [Act.put, List.setIfInBounds_toArray, List.set_cons_zero, List.set_cons_succ])
              refine wpHold_one (k := 10) (by kernel_rfl) rfl (fun K hK => ?_)
              (try simp only [List.getElem_toArray, List.getElem_cons_succ, List.getElem_cons_zero])
              go_simp
              refine (unhide HMUL _ _ _ _ _ ((unhide K5).2.below bd0) ((unhide HA2).below bd0) (unhide HRU1) (unhide HRL).2.2).mono ?_
              rintro e xw_1 ⟨xv_1, rfl, hv_1, hb_1⟩
              have cc_1 := below_step bd0 hb_1
              have hC_1 : (fun w' : World => (w'.cell? ⟨b5, 0, none⟩ = some (.bool tu.s) ∧ w'.cell? ⟨b5, 1, none⟩ = some (.slice tu.a1 tu.n1 tu.c1) ∧ w'.cell? ⟨b5, 2, none⟩ = some (.slice tu.a2 tu.n2 tu.c2)) ∧ (w'.cell? ⟨b12, 0, none⟩ = some (.bool td.s) ∧ w'.cell? ⟨b12, 1, none⟩ = some (.slice td.a1 td.n1 td.c1) ∧ w'.cell? ⟨b12, 2, none⟩ = some (.slice td.a2 td.n2 td.c2)) ∧ (w'.cell? ⟨g6, m * 3, none⟩ = some (.bool p0.s) ∧ w'.cell? ⟨g6, m * 3 + 1, none⟩ = some (.slice p0.a1 p0.n1 p0.c1) ∧ w'.cell? ⟨g6, m * 3 + 2, none⟩ = some (.slice p0.a2 p0.n2 p0.c2)) ∧ (w'.cell? ⟨g6, (m + 1) * 3, none⟩ = some (.bool p1.s) ∧ w'.cell? ⟨g6, (m + 1) * 3 + 1, none⟩ = some (.slice p1.a1 p1.n1 p1.c1) ∧ w'.cell? ⟨g6, (m + 1) * 3 + 2, none⟩ = some (.slice p1.a2 p1.n2 p1.c2)) ∧ (w'.cell? ⟨g6, (m + 1 + 1) * 3, none⟩ = some (.bool p2.s) ∧ w'.cell? ⟨g6, (m + 1 + 1) * 3 + 1, none⟩ = some (.slice p2.a1 p2.n1 p2.c1) ∧ w'.cell? ⟨g6, (m + 1 + 1) * 3 + 2, none⟩ = some (.slice p2.a2 p2.n2 p2.c2)) ∧ (w'.cell? ⟨g7, m * 3, none⟩ = some (.bool r0.s) ∧ w'.cell? ⟨g7, m * 3 + 1, none⟩ = some (.slice r0.a1 r0.n1 r0.c1) ∧ w'.cell? ⟨g7, m * 3 + 2, none⟩ = some (.slice r0.a2 r0.n2 r0.c2)) ∧ (w'.cell? ⟨g7, (m + 1) * 3, none⟩ = some (.bool r1.s) ∧ w'.cell? ⟨g7, (m + 1) * 3 + 1, none⟩ = some (.slice r1.a1 r1.n1 r1.c1) ∧ w'.cell? ⟨g7, (m + 1) * 3 + 2, none⟩ = some (.slice r1.a2 r1.n2 r1.c2)) ∧ (w'.cell? ⟨g7, (m + 1 + 1) * 3, none⟩ = some (.bool r2.s) ∧ w'.cell? ⟨g7, (m + 1 + 1) * 3 + 1, none⟩ = some (.slice r2.a1 r2.n1 r2.c1) ∧ w'.cell? ⟨g7, (m + 1 + 1) * 3 + 2, none⟩ = some (.slice r2.a2 r2.n2 r2.c2))) xw_1 := unhide HCC _ cc_1
              refine hK.out _ _ hC_1 ?_
              clear hK K
              (try simp only [Act.put, List.setIfInBounds_toArray, List.set_cons_zero, List.set_cons_succ])
              refine wpHold_one (k := 17) (by kernel_rfl) rfl (fun K hK => ?_)
              (try simp only [List.getElem_toArray, List.getElem_cons_succ, List.getElem_cons_zero])
              go_simp
              refine (unhide HMUL _ _ _ _ _ ((unhide K12).2.below cc_1) ((unhide HA0).below cc_1) (unhide HRD) (unhide HRL).1).mono ?_
              rintro e xw_2 ⟨xv_2, rfl, hv_2, hb_2⟩
              have cc_2 := below_step cc_1 hb_2
              have hC_2 : (fun w' : World => (w'.cell? ⟨b5, 0, none⟩ = some (.bool tu.s) ∧ w'.cell? ⟨b5, 1, none⟩ = some (.slice tu.a1 tu.n1 tu.c1) ∧ w'.cell? ⟨b5, 2, none⟩ = some (.slice tu.a2 tu.n2 tu.c2)) ∧ (w'.cell? ⟨b12, 0, none⟩ = some (.bool td.s) ∧ w'.cell? ⟨b12, 1, none⟩ = some (.slice td.a1 td.n1 td.c1) ∧ w'.cell? ⟨b12, 2, none⟩ = some (.slice td.a2 td.n2 td.c2)) ∧ (w'.cell? ⟨g6, m * 3, none⟩ = some (.bool p0.s) ∧ w'.cell? ⟨g6, m * 3 + 1, none⟩ = some (.slice p0.a1 p0.n1 p0.c1) ∧ w'.cell? ⟨g6, m * 3 + 2, none⟩ = some (.slice p0.a2 p0.n2 p0.c2)) ∧ (w'.cell? ⟨g6, (m + 1) * 3, none⟩ = some (.bool p1.s) ∧ w'.cell? ⟨g6, (m + 1) * 3 + 1, none⟩ = some (.slice p1.a1 p1.n1 p1.c1) ∧ w'.cell? ⟨g6, (m + 1) * 3 + 2, none⟩ = some (.slice p1.a2 p1.n2 p1.c2)) ∧ (w'.cell? ⟨g6, (m + 1 + 1) * 3, none⟩ = some (.bool p2.s) ∧ w'.cell? ⟨g6, (m + 1 + 1) * 3 + 1, none⟩ = some (.slice p2.a1 p2.n1 p2.c1) ∧ w'.cell? ⟨g6, (m + 1 + 1) * 3 + 2, none⟩ = some (.slice p2.a2 p2.n2 p2.c2)) ∧ (w'.cell? ⟨g7, m * 3, none⟩ = some (.bool r0.s) ∧ w'.cell? ⟨g7, m * 3 + 1, none⟩ = some (.slice r0.a1 r0.n1 r0.c1) ∧ w'.cell? ⟨g7, m * 3 + 2, none⟩ = some (.slice r0.a2 r0.n2 r0.c2)) ∧ (w'.cell? ⟨g7, (m + 1) * 3, none⟩ = some (.bool r1.s) ∧ w'.cell? ⟨g7, (m + 1) * 3 + 1, none⟩ = some (.slice r1.a1 r1.n1 r1.c1) ∧ w'.cell? ⟨g7, (m + 1) * 3 + 2, none⟩ = some (.slice r1.a2 r1.n2 r1.c2)) ∧ (w'.cell? ⟨g7, (m + 1 + 1) * 3, none⟩ = some (.bool r2.s) ∧ w'.cell? ⟨g7, (m + 1 + 1) * 3 + 1, none⟩ = some (.slice r2.a1 r2.n1 r2.c1) ∧ w'.cell? ⟨g7, (m + 1 + 1) * 3 + 2, none⟩ = some (.slice r2.a2 r2.n2 r2.c2))) xw_2 := unhide HCC _ cc_2
              refine hK.out _ _ hC_2 ?_
              clear hK K
              (try simp only [Act.put, List.setIfInBounds_toArray, List.set_cons_zero, List.set_cons_succ])
              refine wpHold_one (k := 18) (by kernel_rfl) rfl (fun K hK => ?_)
              (try simp only [List.getElem_toArray, List.getElem_cons_succ, List.getElem_cons_zero])
              go_simp
              refine (unhide HADD _ _ _ _ _ (hv_1.below hb_2) hv_2 (unhide HR1).1 (unhide HR1).2).mono ?_
              rintro e xw_3 ⟨xv_3, rfl, hv_3, hb_3⟩
              have cc_3 := below_step cc_2 hb_3
              have hC_3 : (fun w' : World => (w'.cell? ⟨b5, 0, none⟩ = some (.bool tu.s) ∧ w'.cell? ⟨b5, 1, none⟩ = some (.slice tu.a1 tu.n1 tu.c1) ∧ w'.cell? ⟨b5, 2, none⟩ = some (.slice tu.a2 tu.n2 tu.c2)) ∧ (w'.cell? ⟨b12, 0, none⟩ = some (.bool td.s) ∧ w'.cell? ⟨b12, 1, none⟩ = some (.slice td.a1 td.n1 td.c1) ∧ w'.cell? ⟨b12, 2, none⟩ = some (.slice td.a2 td.n2 td.c2)) ∧ (w'.cell? ⟨g6, m * 3, none⟩ = some (.bool p0.s) ∧ w'.cell? ⟨g6, m * 3 + 1, none⟩ = some (.slice p0.a1 p0.n1 p0.c1) ∧ w'.cell? ⟨g6, m * 3 + 2, none⟩ = some (.slice p0.a2 p0.n2 p0.c2)) ∧ (w'.cell? ⟨g6, (m + 1) * 3, none⟩ = some (.bool p1.s) ∧ w'.cell? ⟨g6, (m + 1) * 3 + 1, none⟩ = some (.slice p1.a1 p1.n1 p1.c1) ∧ w'.cell? ⟨g6, (m + 1) * 3 + 2, none⟩ = some (.slice p1.a2 p1.n2 p1.c2)) ∧ (w'.cell? ⟨g6, (m + 1 + 1) * 3, none⟩ = some (.bool p2.s) ∧ w'.cell? ⟨g6, (m + 1 + 1) * 3 + 1, none⟩ = some (.slice p2.a1 p2.n1 p2.c1) ∧ w'.cell? ⟨g6, (m + 1 + 1) * 3 + 2, none⟩ = some (.slice p2.a2 p2.n2 p2.c2)) ∧ (w'.cell? ⟨g7, m * 3, none⟩ = some (.bool r0.s) ∧ w'.cell? ⟨g7, m * 3 + 1, none⟩ = some (.slice r0.a1 r0.n1 r0.c1) ∧ w'.cell? ⟨g7, m * 3 + 2, none⟩ = some (.slice r0.a2 r0.n2 r0.c2)) ∧ (w'.cell? ⟨g7, (m + 1) * 3, none⟩ = some (.bool r1.s) ∧ w'.cell? ⟨g7, (m + 1) * 3 + 1, none⟩ = some (.slice r1.a1 r1.n1 r1.c1) ∧ w'.cell? ⟨g7, (m + 1) * 3 + 2, none⟩ = some (.slice r1.a2 r1.n2 r1.c2)) ∧ (w'.cell? ⟨g7, (m + 1 + 1) * 3, none⟩ = some (.bool r2.s) ∧ w'.cell? ⟨g7, (m + 1 + 1) * 3 + 1, none⟩ = some (.slice r2.a1 r2.n1 r2.c1) ∧ w'.cell? ⟨g7, (m + 1 + 1) * 3 + 2, none⟩ = some (.slice r2.a2 r2.n2 r2.c2))) xw_3 := unhide HCC _ cc_3
              refine hK.out _ _ hC_3 ?_
              clear hK K
              (try simp only [Act.put, List.setIfInBounds_toArray, List.set_cons_zero, List.set_cons_succ])
              rw [unhide HE1] at hv_3
              refine wpHold_one (k := 19) (by kernel_rfl) rfl (fun K hK => ?_)
              (try simp only [List.getElem_toArray, List.getElem_cons_succ, List.getElem_cons_zero])
              go_simp
              refine (unhide HLIK _ _ _ _ ((unhide HA1).below cc_3) hv_3 (unhide HRL).2.1 cc_3).mono ?_
              rintro e xw_4 ⟨rfl, hb_4⟩
              have cc_4 := below_step cc_3 hb_4
              have hC_4 : (fun w' : World => (w'.cell? ⟨b5, 0, none⟩ = some (.bool tu.s) ∧ w'.cell? ⟨b5, 1, none⟩ = some (.slice tu.a1 tu.n1 tu.c1) ∧ w'.cell? ⟨b5, 2, none⟩ = some (.slice tu.a2 tu.n2 tu.c2)) ∧ (w'.cell? ⟨b12, 0, none⟩ = some (.bool td.s) ∧ w'.cell? ⟨b12, 1, none⟩ = some (.slice td.a1 td.n1 td.c1) ∧ w'.cell? ⟨b12, 2, none⟩ = some (.slice td.a2 td.n2 td.c2)) ∧ (w'.cell? ⟨g6, m * 3, none⟩ = some (.bool p0.s) ∧ w'.cell? ⟨g6, m * 3 + 1, none⟩ = some (.slice p0.a1 p0.n1 p0.c1) ∧ w'.cell? ⟨g6, m * 3 + 2, none⟩ = some (.slice p0.a2 p0.n2 p0.c2)) ∧ (w'.cell? ⟨g6, (m + 1) * 3, none⟩ = some (.bool p1.s) ∧ w'.cell? ⟨g6, (m + 1) * 3 + 1, none⟩ = some (.slice p1.a1 p1.n1 p1.c1) ∧ w'.cell? ⟨g6, (m + 1) * 3 + 2, none⟩ = some (.slice p1.a2 p1.n2 p1.c2)) ∧ (w'.cell? ⟨g6, (m + 1 + 1) * 3, none⟩ = some (.bool p2.s) ∧ w'.cell? ⟨g6, (m + 1 + 1) * 3 + 1, none⟩ = some (.slice p2.a1 p2.n1 p2.c1) ∧ w'.cell? ⟨g6, (m + 1 + 1) * 3 + 2, none⟩ = some (.slice p2.a2 p2.n2 p2.c2)) ∧ (w'.cell? ⟨g7, m * 3, none⟩ = some (.bool r0.s) ∧ w'.cell? ⟨g7, m * 3 + 1, none⟩ = some (.slice r0.a1 r0.n1 r0.c1) ∧ w'.cell? ⟨g7, m * 3 + 2, none⟩ = some (.slice r0.a2 r0.n2 r0.c2)) ∧ (w'.cell? ⟨g7, (m + 1) * 3, none⟩ = some (.bool r1.s) ∧ w'.cell? ⟨g7, (m + 1) * 3 + 1, none⟩ = some (.slice r1.a1 r1.n1 r1.c1) ∧ w'.cell? ⟨g7, (m + 1) * 3 + 2, none⟩ = some (.slice r1.a2 r1.n2 r1.c2)) ∧ (w'.cell? ⟨g7, (m + 1 + 1) * 3, none⟩ = some (.bool r2.s) ∧ w'.cell? ⟨g7, (m + 1 + 1) * 3 + 1, none⟩ = some (.slice r2.a1 r2.n1 r2.c1) ∧ w'.cell? ⟨g7, (m + 1 + 1) * 3 + 2, none⟩ = some (.slice r2.a2 r2.n2 r2.c2))) xw_4 := unhide HCC _ cc_4
              refine hK.out _ _ hC_4 ?_
              clear hK K
              (try simp only [Act.put, List.setIfInBounds_toArray, List.set_cons_zero, List.set_cons_succ])
              refine wpHold_take (i := 20) (v := ?_) rfl (by kernel_rfl) (by kernel_rfl) (by kernel_rfl) (fun _ _ _ h => h) (Or.inl ⟨by rfl, ?_⟩) hC_4 ?_
              rotate_left
              · intro w hSw; clear hSw; go_simp; (try with_reducible rfl)
              (try simp only [List.getElem_toArray, List.getElem_cons_succ, List.getElem_cons_zero])
              (try simp only [Act.put, List.setIfInBounds_toArray, List.set_cons_zero, List.set_cons_succ])
              refine wpHold_take (i := 21) (v := ?_) rfl (by kernel_rfl) (by kernel_rfl) (by kernel_rfl) (fun _ _ _ h => h) (Or.inl ⟨by rfl, ?_⟩) hC_4 ?_
              rotate_left
              · intro w hSw; clear hSw; go_simp; (try with_reducible rfl)
              (try simp only [List.getElem_toArray, List.getElem_cons_succ, List.getElem_cons_zero])
              (try simp only [Act.put, List.setIfInBounds_toArray, List.set_cons_zero, List.set_cons_succ])
              refine wpHold_take (i := 22) (v := ?_) rfl (by kernel_rfl) (by kernel_rfl) (by kernel_rfl) (fun _ _ _ h => h) (Or.inl ⟨by rfl, ?_⟩) hC_4 ?_
              rotate_left
              · intro w hSw; clear hSw; go_simp; (try with_reducible rfl)
              (try simp only [List.getElem_toArray, List.getElem_cons_succ, List.getElem_cons_zero])
              (try simp only [Act.put, List.setIfInBounds_toArray, List.set_cons_zero, List.set_cons_succ])
              refine wpHold_take (i := 23) (v := ?_) rfl (by kernel_rfl) (by kernel_rfl) (by kernel_rfl) (fun _ _ _ h => h) (Or.inl ⟨by rfl, ?_⟩) hC_4 ?_
              rotate_left
              · intro w hSw; clear hSw; go_simp; (try with_reducible rfl)
              (try simp only [List.getElem_toArray, List.getElem_cons_succ, List.getElem_cons_zero])
              (try simp only [Act.put, List.setIfInBounds_toArray, List.set_cons_zero, List.set_cons_succ])
              refine wpHold_take (i := 24) (v := ?_) rfl (by kernel_rfl) (by kernel_rfl) (by kernel_rfl) (fun _ _ _ h => h) (Or.inl ⟨by rfl, ?_⟩) hC_4 ?_
              rotate_left
              · intro w hSw; clear hSw; go_simp; (try with_reducible rfl)
              (try simp only [List.getElem_toArray, List.getElem_cons_succ, List.getElem_cons_zero])
              (try simp only [Act.put, List.setIfInBounds_toArray, List.set_cons_zero, List.set_cons_succ])
              refine wpHold_take (i := 25) (v := ?_) rfl (by kernel_rfl) (by kernel_rfl) (by kernel_rfl) (fun _ _ _ h => h) (Or.inl ⟨by rfl, ?_⟩) hC_4 ?_
              rotate_left
              · intro w hSw; (try dsimp only at hSw); obtain ⟨⟨z0, z1, z2⟩, ⟨z3, z4, z5⟩, ⟨z6, z7, z8⟩, ⟨z9, z10, z11⟩, ⟨z12, z13, z14⟩, ⟨z15, z16, z17⟩, ⟨z18, z19, z20⟩, z21, z22, z23⟩ := hSw; go_simp; (try with_reducible rfl)
              (try simp only [List.getElem_toArray, List.getElem_cons_succ, List.getElem_cons_zero])
              (try simp only [Act.put, List.setIfInBounds_toArray, List.set_cons_zero, List.set_cons_succ])
              refine wpHold_take (i := 27) (v := ?_) rfl (by kernel_rfl) (by kernel_rfl) (by kernel_rfl) (fun _ _ _ h => h) (Or.inl ⟨by rfl, ?_⟩) hC_4 ?_
              rotate_left
              · intro w hSw; (try dsimp only at hSw); obtain ⟨⟨z0, z1, z2⟩, ⟨z3, z4, z5⟩, ⟨z6, z7, z8⟩, ⟨z9, z10, z11⟩, ⟨z12, z13, z14⟩, ⟨z15, z16, z17⟩, ⟨z18, z19, z20⟩, z21, z22, z23⟩ := hSw; go_simp; (try with_reducible rfl)
              (try simp only [List.getElem_toArray, List.getElem_cons_succ, List.getElem_cons_zero])
              (try simp only [Act.put, List.setIfInBounds_toArray, List.set_cons_zero, List.set_cons_succ])
              refine wpHold_take (i := 28) (v := ?_) rfl (by kernel_rfl) (by kernel_rfl) (by kernel_rfl) (fun _ _ _ h => h) (Or.inl ⟨by rfl, ?_⟩) hC_4 ?_
              rotate_left
              · intro w hSw; clear hSw; go_simp; (try with_reducible rfl)
              (try simp only [List.getElem_toArray, List.getElem_cons_succ, List.getElem_cons_zero])
              (try simp only [Act.put, List.setIfInBounds_toArray, List.set_cons_zero, List.set_cons_succ])
              refine wpHold_take (i := 29) (v := ?_) rfl (by kernel_rfl) (by kernel_rfl) (by kernel_rfl) (fun _ _ _ h => h) (Or.inl ⟨by rfl, ?_⟩) hC_4 ?_
              rotate_left
              · intro w hSw; clear hSw; go_simp; (try with_reducible rfl)
              (try simp only [List.getElem_toArray, List.getElem_cons_succ, List.getElem_cons_zero])
              (try simp only [Act.put, List.setIfInBounds_toArray, List.set_cons_zero, List.set_cons_succ])
              refine wpHold_take (i := 30) (v := ?_) rfl (by kernel_rfl) (by kernel_rfl) (by kernel_rfl) (fun _ _ _ h => h) (Or.inl ⟨by rfl, ?_⟩) hC_4 ?_
              rotate_left
              · intro w hSw; clear hSw; go_simp; (try with_reducible rfl)
              (try simp only [List.getElem_toArray, List.getElem_cons_succ, List.getElem_cons_zero])
              (try simp only [Act.put, List.setIfInBounds_toArray, List.set_cons_zero, List.set_cons_succ])
              refine wpHold_take (i := 31) (v := ?_) rfl (by kernel_rfl) (by kernel_rfl) (by kernel_rfl) (fun _ _ _ h => h) (Or.inl ⟨by rfl, ?_⟩) hC_4 ?_
              rotate_left
              · intro w hSw; clear hSw; go_simp; (try with_reducible rfl)
              (try simp only [List.getElem_toArray, List.getElem_cons_succ, List.getElem_cons_zero])
              (try simp only [Act.put, List.setIfInBounds_toArray, List.set_cons_zero, List.set_cons_succ])
              refine wpHold_take (i := 32) (v := ?_) rfl (by kernel_rfl) (by kernel_rfl) (by kernel_rfl) (fun _ _ _ h => h) (Or.inl ⟨by rfl, ?_⟩) hC_4 ?_
              rotate_left
              · intro w hSw; (try dsimp only at hSw); obtain ⟨⟨z0, z1, z2⟩, ⟨z3, z4, z5⟩, ⟨z6, z7, z8⟩, ⟨z9, z10, z11⟩, ⟨z12, z13, z14⟩, ⟨z15, z16, z17⟩, ⟨z18, z19, z20⟩, z21, z22, z23⟩ := hSw; go_simp; (try with_reducible rfl)
              (try simp only [List.getElem_toArray, List.getElem_cons_succ, List.getElem_cons_zero])
              (try simp only [Act.put, List.setIfInBounds_toArray, List.set_cons_zero, List.set_cons_succ])
              refine wpHold_take (i := 35) (v := ?_) rfl (by kernel_rfl) (by kernel_rfl) (by kernel_rfl) (fun _ _ _ h => h) (Or.inl ⟨by rfl, ?_⟩) hC_4 ?_
              rotate_left
              · intro w hSw; (try dsimp only at hSw); obtain ⟨⟨z0, z1, z2⟩, ⟨z3, z4, z5⟩, ⟨z6, z7, z8⟩, ⟨z9, z10, z11⟩, ⟨z12, z13, z14⟩, ⟨z15, z16, z17⟩, ⟨z18, z19, z20⟩, z21, z22, z23⟩ := hSw; go_simp; (try with_reducible rfl)
              (try simp only [List.getElem_toArray, List.getElem_cons_succ, List.getElem_cons_zero])
              (try simp only [Act.put, List.setIfInBounds_toArray, List.set_cons_zero, List.set_cons_succ])
              refine wpHold_take (i := 36) (v := ?_) rfl (by kernel_rfl) (by kernel_rfl) (by kernel_rfl) (fun _ _ _ h => h) (Or.inl ⟨by rfl, ?_⟩) hC_4 ?_
              rotate_left
              · intro w hSw; clear hSw; go_simp; (try with_reducible rfl)
              (try simp only [List.getElem_toArray, List.getElem_cons_succ, List.getElem_cons_zero])
              (try simp only [Act.put, List.setIfInBounds_toArray, List.set_cons_zero, List.set_cons_succ])
              refine wpHold_take (i := 37) (v := ?_) rfl (by kernel_rfl) (by kernel_rfl) (by kernel_rfl) (fun _ _ _ h => h) (Or.inl ⟨by rfl, ?_⟩) hC_4 ?_
              rotate_left
              · intro w hSw; clear hSw; go_simp; (try with_reducible rfl)
              (try simp only [List.getElem_toArray, List.getElem_cons_succ, List.getElem_cons_zero])
              (try simp only [Act.put, List.setIfInBounds_toArray, List.set_cons_zero, List.set_cons_succ])
              refine wpHold_take (i := 38) (v := ?_) rfl (by kernel_rfl) (by kernel_rfl) (by kernel_rfl) (fun _ _ _ h => h) (Or.inl ⟨by rfl, ?_⟩) hC_4 ?_
              rotate_left
              · intro w hSw; clear hSw; go_simp; (try with_reducible rfl)
              (try simp only [List.getElem_toArray, List.getElem_cons_succ, List.getElem_cons_zero])
              (try simp only [Act.put, List.setIfInBounds_toArray, List.set_cons_zero, List.set_cons_succ])
              refine wpHold_take (i := 39) (v := ?_) rfl (by kernel_rfl) (by kernel_rfl) (by kernel_rfl) (fun _ _ _ h => h) (Or.inl ⟨by rfl, ?_⟩) hC_4 ?_
              rotate_left
              · intro w hSw; clear hSw; go_simp; (try with_reducible rfl)
              (try simp only [List.getElem_toArray, List.getElem_cons_succ, List.getElem_cons_zero])
              (try simp only [Act.put, List.setIfInBounds_toArray, List.set_cons_zero, List.set_cons_succ])
              refine wpHold_take (i := 40) (v := ?_) rfl (by kernel_rfl) (by kernel_rfl) (by kernel_rfl) (fun _ _ _ h => h) (Or.inl ⟨by rfl, ?_⟩) hC_4 ?_
              rotate_left
              · intro w hSw; (try dsimp only at hSw); obtain ⟨⟨z0, z1, z2⟩, ⟨z3, z4, z5⟩, ⟨z6, z7, z8⟩, ⟨z9, z10, z11⟩, ⟨z12, z13, z14⟩, ⟨z15, z16, z17⟩, ⟨z18, z19, z20⟩, z21, z22, z23⟩ := hSw; go_simp; (try with_reducible rfl)
              (try simp only [List.getElem_toArray, List.getElem_cons_succ, List.getElem_cons_zero])
              (try simp only [Act.put, List.setIfInBounds_toArray, List.set_cons_zero, List.set_cons_succ])
              refine wpHold_one (k := 26) (by kernel_rfl) rfl (fun K hK => ?_)
              (try simp only [List.getElem_toArray, List.getElem_cons_succ, List.getElem_cons_zero])
              go_simp
              refine (unhide HWH _).mono ?_
              rintro e xw_5 ⟨xv_5, rfl, hv_5, hb_5⟩
              have cc_5 := below_step cc_4 hb_5
              have hC_5 : (fun w' : World => (w'.cell? ⟨b5, 0, none⟩ = some (.bool tu.s) ∧ w'.cell? ⟨b5, 1, none⟩ = some (.slice tu.a1 tu.n1 tu.c1) ∧ w'.cell? ⟨b5, 2, none⟩ = some (.slice tu.a2 tu.n2 tu.c2)) ∧ (w'.cell? ⟨b12, 0, none⟩ = some (.bool td.s) ∧ w'.cell? ⟨b12, 1, none⟩ = some (.slice td.a1 td.n1 td.c1) ∧ w'.cell? ⟨b12, 2, none⟩ = some (.slice td.a2 td.n2 td.c2)) ∧ (w'.cell? ⟨g6, m * 3, none⟩ = some (.bool p0.s) ∧ w'.cell? ⟨g6, m * 3 + 1, none⟩ = some (.slice p0.a1 p0.n1 p0.c1) ∧ w'.cell? ⟨g6, m * 3 + 2, none⟩ = some (.slice p0.a2 p0.n2 p0.c2)) ∧ (w'.cell? ⟨g6, (m + 1) * 3, none⟩ = some (.bool p1.s) ∧ w'.cell? ⟨g6, (m + 1) * 3 + 1, none⟩ = some (.slice p1.a1 p1.n1 p1.c1) ∧ w'.cell? ⟨g6, (m + 1) * 3 + 2, none⟩ = some (.slice p1.a2 p1.n2 p1.c2)) ∧ (w'.cell? ⟨g6, (m + 1 + 1) * 3, none⟩ = some (.bool p2.s) ∧ w'.cell? ⟨g6, (m + 1 + 1) * 3 + 1, none⟩ = some (.slice p2.a1 p2.n1 p2.c1) ∧ w'.cell? ⟨g6, (m + 1 + 1) * 3 + 2, none⟩ = some (.slice p2.a2 p2.n2 p2.c2)) ∧ (w'.cell? ⟨g7, m * 3, none⟩ = some (.bool r0.s) ∧ w'.cell? ⟨g7, m * 3 + 1, none⟩ = some (.slice r0.a1 r0.n1 r0.c1) ∧ w'.cell? ⟨g7, m * 3 + 2, none⟩ = some (.slice r0.a2 r0.n2 r0.c2)) ∧ (w'.cell? ⟨g7, (m + 1) * 3, none⟩ = some (.bool r1.s) ∧ w'.cell? ⟨g7, (m + 1) * 3 + 1, none⟩ = some (.slice r1.a1 r1.n1 r1.c1) ∧ w'.cell? ⟨g7, (m + 1) * 3 + 2, none⟩ = some (.slice r1.a2 r1.n2 r1.c2)) ∧ (w'.cell? ⟨g7, (m + 1 + 1) * 3, none⟩ = some (.bool r2.s) ∧ w'.cell? ⟨g7, (m + 1 + 1) * 3 + 1, none⟩ = some (.slice r2.a1 r2.n1 r2.c1) ∧ w'.cell? ⟨g7, (m + 1 + 1) * 3 + 2, none⟩ = some (.slice r2.a2 r2.n2 r2.c2))) xw_5 := unhide HCC _ cc_5
              refine hK.out _ _ hC_5 ?_
              clear hK K
              (try simp only [Act.put, List.setIfInBounds_toArray, List.set_cons_zero, List.set_cons_succ])
              refine wpHold_one (k := 33) (by kernel_rfl) rfl (fun K hK => ?_)
              (try simp only [List.getElem_toArray, List.getElem_cons_succ, List.getElem_cons_zero])
              go_simp
              refine (unhide HMUL _ _ _ _ _ ((unhide K5).2.below cc_5) ((unhide HB2').below cc_5) (unhide HRU1) (unhide HRT).2.2).mono ?_
              rintro e xw_6 ⟨xv_6, rfl, hv_6, hb_6⟩
              have cc_6 := below_step cc_5 hb_6
              have hC_6 : (fun w' : World => (w'.cell? ⟨b5, 0, none⟩ = some (.bool tu.s) ∧ w'.cell? ⟨b5, 1, none⟩ = some (.slice tu.a1 tu.n1 tu.c1) ∧ w'.cell? ⟨b5, 2, none⟩ = some (.slice tu.a2 tu.n2 tu.c2)) ∧ (w'.cell? ⟨b12, 0, none⟩ = some (.bool td.s) ∧ w'.cell? ⟨b12, 1, none⟩ = some (.slice td.a1 td.n1 td.c1) ∧ w'.cell? ⟨b12, 2, none⟩ = some (.slice td.a2 td.n2 td.c2)) ∧ (w'.cell? ⟨g6, m * 3, none⟩ = some (.bool p0.s) ∧ w'.cell? ⟨g6, m * 3 + 1, none⟩ = some (.slice p0.a1 p0.n1 p0.c1) ∧ w'.cell? ⟨g6, m * 3 + 2, none⟩ = some (.slice p0.a2 p0.n2 p0.c2)) ∧ (w'.cell? ⟨g6, (m + 1) * 3, none⟩ = some (.bool p1.s) ∧ w'.cell? ⟨g6, (m + 1) * 3 + 1, none⟩ = some (.slice p1.a1 p1.n1 p1.c1) ∧ w'.cell? ⟨g6, (m + 1) * 3 + 2, none⟩ = some (.slice p1.a2 p1.n2 p1.c2)) ∧ (w'.cell? ⟨g6, (m + 1 + 1) * 3, none⟩ = some (.bool p2.s) ∧ w'.cell? ⟨g6, (m + 1 + 1) * 3 + 1, none⟩ = some (.slice p2.a1 p2.n1 p2.c1) ∧ w'.cell? ⟨g6, (m + 1 + 1) * 3 + 2, none⟩ = some (.slice p2.a2 p2.n2 p2.c2)) ∧ (w'.cell? ⟨g7, m * 3, none⟩ = some (.bool r0.s) ∧ w'.cell? ⟨g7, m * 3 + 1, none⟩ = some (.slice r0.a1 r0.n1 r0.c1) ∧ w'.cell? ⟨g7, m * 3 + 2, none⟩ = some (.slice r0.a2 r0.n2 r0.c2)) ∧ (w'.cell? ⟨g7, (m + 1) * 3, none⟩ = some (.bool r1.s) ∧ w'.cell? ⟨g7, (m + 1) * 3 + 1, none⟩ = some (.slice r1.a1 r1.n1 r1.c1) ∧ w'.cell? ⟨g7, (m + 1) * 3 + 2, none⟩ = some (.slice r1.a2 r1.n2 r1.c2)) ∧ (w'.cell? ⟨g7, (m + 1 + 1) * 3, none⟩ = some (.bool r2.s) ∧ w'.cell? ⟨g7, (m + 1 + 1) * 3 + 1, none⟩ = some (.slice r2.a1 r2.n1 r2.c1) ∧ w'.cell? ⟨g7, (m + 1 + 1) * 3 + 2, none⟩ = some (.slice r2.a2 r2.n2 r2.c2))) xw_6 := unhide HCC _ cc_6
              refine hK.out _ _ hC_6 ?_
              clear hK K
              (try simp only [Act.put, List.setIfInBounds_toArray, List.set_cons_zero, List.set_cons_succ])
              refine wpHold_one (k := 34) (by kernel_rfl) rfl (fun K hK => ?_)
              (try simp only [List.getElem_toArray, List.getElem_cons_succ, List.getElem_cons_zero])
              go_simp
              refine (unhide HADD _ _ _ _ _ (hv_5.below hb_6) hv_6 (unhide HRO) (unhide HR2).1).mono ?_
              rintro e xw_7 ⟨xv_7, rfl, hv_7, hb_7⟩
              have cc_7 := below_step cc_6 hb_7
              have hC_7 : (fun w' : World => (w'.cell? ⟨b5, 0, none⟩ = some (.bool tu.s) ∧ w'.cell? ⟨b5, 1, none⟩ = some (.slice tu.a1 tu.n1 tu.c1) ∧ w'.cell? ⟨b5, 2, none⟩ = some (.slice tu.a2 tu.n2 tu.c2)) ∧ (w'.cell? ⟨b12, 0, none⟩ = some (.bool td.s) ∧ w'.cell? ⟨b12, 1, none⟩ = some (.slice td.a1 td.n1 td.c1) ∧ w'.cell? ⟨b12, 2, none⟩ = some (.slice td.a2 td.n2 td.c2)) ∧ (w'.cell? ⟨g6, m * 3, none⟩ = some (.bool p0.s) ∧ w'.cell? ⟨g6, m * 3 + 1, none⟩ = some (.slice p0.a1 p0.n1 p0.c1) ∧ w'.cell? ⟨g6, m * 3 + 2, none⟩ = some (.slice p0.a2 p0.n2 p0.c2)) ∧ (w'.cell? ⟨g6, (m + 1) * 3, none⟩ = some (.bool p1.s) ∧ w'.cell? ⟨g6, (m + 1) * 3 + 1, none⟩ = some (.slice p1.a1 p1.n1 p1.c1) ∧ w'.cell? ⟨g6, (m + 1) * 3 + 2, none⟩ = some (.slice p1.a2 p1.n2 p1.c2)) ∧ (w'.cell? ⟨g6, (m + 1 + 1) * 3, none⟩ = some (.bool p2.s) ∧ w'.cell? ⟨g6, (m + 1 + 1) * 3 + 1, none⟩ = some (.slice p2.a1 p2.n1 p2.c1) ∧ w'.cell? ⟨g6, (m + 1 + 1) * 3 + 2, none⟩ = some (.slice p2.a2 p2.n2 p2.c2)) ∧ (w'.cell? ⟨g7, m * 3, none⟩ = some (.bool r0.s) ∧ w'.cell? ⟨g7, m * 3 + 1, none⟩ = some (.slice r0.a1 r0.n1 r0.c1) ∧ w'.cell? ⟨g7, m * 3 + 2, none⟩ = some (.slice r0.a2 r0.n2 r0.c2)) ∧ (w'.cell? ⟨g7, (m + 1) * 3, none⟩ = some (.bool r1.s) ∧ w'.cell? ⟨g7, (m + 1) * 3 + 1, none⟩ = some (.slice r1.a1 r1.n1 r1.c1) ∧ w'.cell? ⟨g7, (m + 1) * 3 + 2, none⟩ = some (.slice r1.a2 r1.n2 r1.c2)) ∧ (w'.cell? ⟨g7, (m + 1 + 1) * 3, none⟩ = some (.bool r2.s) ∧ w'.cell? ⟨g7, (m + 1 + 1) * 3 + 1, none⟩ = some (.slice r2.a1 r2.n1 r2.c1) ∧ w'.cell? ⟨g7, (m + 1 + 1) * 3 + 2, none⟩ = some (.slice r2.a2 r2.n2 r2.c2))) xw_7 := unhide HCC _ cc_7
              refine hK.out _ _ hC_7 ?_
              clear hK K
              (try simp only [Act.put, List.setIfInBounds_toArray, List.set_cons_zero, List.set_cons_succ])
              refine wpHold_one (k := 41) (by kernel_rfl) rfl (fun K hK => ?_)
              (try simp only [List.getElem_toArray, List.getElem_cons_succ, List.getElem_cons_zero])
              go_simp
              refine (unhide HMUL _ _ _ _ _ ((unhide K12).2.below cc_7) ((unhide HB0').below cc_7) (unhide HRD) (unhide HRT).1).mono ?_
              rintro e xw_8 ⟨xv_8, rfl, hv_8, hb_8⟩
              have cc_8 := below_step cc_7 hb_8
              have hC_8 : (fun w' : World => (w'.cell? ⟨b5, 0, none⟩ = some (.bool tu.s) ∧ w'.cell? ⟨b5, 1, none⟩ = some (.slice tu.a1 tu.n1 tu.c1) ∧ w'.cell? ⟨b5, 2, none⟩ = some (.slice tu.a2 tu.n2 tu.c2)) ∧ (w'.cell? ⟨b12, 0, none⟩ = some (.bool td.s) ∧ w'.cell? ⟨b12, 1, none⟩ = some (.slice td.a1 td.n1 td.c1) ∧ w'.cell? ⟨b12, 2, none⟩ = some (.slice td.a2 td.n2 td.c2)) ∧ (w'.cell? ⟨g6, m * 3, none⟩ = some (.bool p0.s) ∧ w'.cell? ⟨g6, m * 3 + 1, none⟩ = some (.slice p0.a1 p0.n1 p0.c1) ∧ w'.cell? ⟨g6, m * 3 + 2, none⟩ = some (.slice p0.a2 p0.n2 p0.c2)) ∧ (w'.cell? ⟨g6, (m + 1) * 3, none⟩ = some (.bool p1.s) ∧ w'.cell? ⟨g6, (m + 1) * 3 + 1, none⟩ = some (.slice p1.a1 p1.n1 p1.c1) ∧ w'.cell? ⟨g6, (m + 1) * 3 + 2, none⟩ = some (.slice p1.a2 p1.n2 p1.c2)) ∧ (w'.cell? ⟨g6, (m + 1 + 1) * 3, none⟩ = some (.bool p2.s) ∧ w'.cell? ⟨g6, (m + 1 + 1) * 3 + 1, none⟩ = some (.slice p2.a1 p2.n1 p2.c1) ∧ w'.cell? ⟨g6, (m + 1 + 1) * 3 + 2, none⟩ = some (.slice p2.a2 p2.n2 p2.c2)) ∧ (w'.cell? ⟨g7, m * 3, none⟩ = some (.bool r0.s) ∧ w'.cell? ⟨g7, m * 3 + 1, none⟩ = some (.slice r0.a1 r0.n1 r0.c1) ∧ w'.cell? ⟨g7, m * 3 + 2, none⟩ = some (.slice r0.a2 r0.n2 r0.c2)) ∧ (w'.cell? ⟨g7, (m + 1) * 3, none⟩ = some (.bool r1.s) ∧ w'.cell? ⟨g7, (m + 1) * 3 + 1, none⟩ = some (.slice r1.a1 r1.n1 r1.c1) ∧ w'.cell? ⟨g7, (m + 1) * 3 + 2, none⟩ = some (.slice r1.a2 r1.n2 r1.c2)) ∧ (w'.cell? ⟨g7, (m + 1 + 1) * 3, none⟩ = some (.bool r2.s) ∧ w'.cell? ⟨g7, (m + 1 + 1) * 3 + 1, none⟩ = some (.slice r2.a1 r2.n1 r2.c1) ∧ w'.cell? ⟨g7, (m + 1 + 1) * 3 + 2, none⟩ = some (.slice r2.a2 r2.n2 r2.c2))) xw_8 := unhide HCC _ cc_8
              refine hK.out _ _ hC_8 ?_
              clear hK K
              (try simp only [Act.put, List.setIfInBounds_toArray, List.set_cons_zero, List.set_cons_succ])
              refine wpHold_one (k := 42) (by kernel_rfl) rfl (fun K hK => ?_)
              (try simp only [List.getElem_toArray, List.getElem_cons_succ, List.getElem_cons_zero])
              go_simp
              refine (unhide HADD _ _ _ _ _ (hv_7.below hb_8) hv_8 (unhide HR2).2.2 (unhide HR2).2.1).mono ?_
              rintro e xw_9 ⟨xv_9, rfl, hv_9, hb_9⟩
              have cc_9 := below_step cc_8 hb_9
              have hC_9 : (fun w' : World => (w'.cell? ⟨b5, 0, none⟩ = some (.bool tu.s) ∧ w'.cell? ⟨b5, 1, none⟩ = some (.slice tu.a1 tu.n1 tu.c1) ∧ w'.cell? ⟨b5, 2, none⟩ = some (.slice tu.a2 tu.n2 tu.c2)) ∧ (w'.cell? ⟨b12, 0, none⟩ = some (.bool td.s) ∧ w'.cell? ⟨b12, 1, none⟩ = some (.slice td.a1 td.n1 td.c1) ∧ w'.cell? ⟨b12, 2, none⟩ = some (.slice td.a2 td.n2 td.c2)) ∧ (w'.cell? ⟨g6, m * 3, none⟩ = some (.bool p0.s) ∧ w'.cell? ⟨g6, m * 3 + 1, none⟩ = some (.slice p0.a1 p0.n1 p0.c1) ∧ w'.cell? ⟨g6, m * 3 + 2, none⟩ = some (.slice p0.a2 p0.n2 p0.c2)) ∧ (w'.cell? ⟨g6, (m + 1) * 3, none⟩ = some (.bool p1.s) ∧ w'.cell? ⟨g6, (m + 1) * 3 + 1, none⟩ = some (.slice p1.a1 p1.n1 p1.c1) ∧ w'.cell? ⟨g6, (m + 1) * 3 + 2, none⟩ = some (.slice p1.a2 p1.n2 p1.c2)) ∧ (w'.cell? ⟨g6, (m + 1 + 1) * 3, none⟩ = some (.bool p2.s) ∧ w'.cell? ⟨g6, (m + 1 + 1) * 3 + 1, none⟩ = some (.slice p2.a1 p2.n1 p2.c1) ∧ w'.cell? ⟨g6, (m + 1 + 1) * 3 + 2, none⟩ = some (.slice p2.a2 p2.n2 p2.c2)) ∧ (w'.cell? ⟨g7, m * 3, none⟩ = some (.bool r0.s) ∧ w'.cell? ⟨g7, m * 3 + 1, none⟩ = some (.slice r0.a1 r0.n1 r0.c1) ∧ w'.cell? ⟨g7, m * 3 + 2, none⟩ = some (.slice r0.a2 r0.n2 r0.c2)) ∧ (w'.cell? ⟨g7, (m + 1) * 3, none⟩ = some (.bool r1.s) ∧ w'.cell? ⟨g7, (m + 1) * 3 + 1, none⟩ = some (.slice r1.a1 r1.n1 r1.c1) ∧ w'.cell? ⟨g7, (m + 1) * 3 + 2, none⟩ = some (.slice r1.a2 r1.n2 r1.c2)) ∧ (w'.cell? ⟨g7, (m + 1 + 1) * 3, none⟩ = some (.bool r2.s) ∧ w'.cell? ⟨g7, (m + 1 + 1) * 3 + 1, none⟩ = some (.slice r2.a1 r2.n1 r2.c1) ∧ w'.cell? ⟨g7, (m + 1 + 1) * 3 + 2, none⟩ = some (.slice r2.a2 r2.n2 r2.c2))) xw_9 := unhide HCC _ cc_9
              refine hK.out _ _ hC_9 ?_
              clear hK K
              (try simp only [Act.put, List.setIfInBounds_toArray, List.set_cons_zero, List.set_cons_succ])
              rw [unhide HE2] at hv_9
              refine wpHold_one (k := 43) (by kernel_rfl) rfl (fun K hK => ?_)
              (try simp only [List.getElem_toArray, List.getElem_cons_succ, List.getElem_cons_zero])
              go_simp
              refine (unhide HLIK _ _ _ _ ((unhide HB1').below cc_9) hv_9 (unhide HRT).2.1 cc_9).mono ?_
              rintro e xw_10 ⟨rfl, hb_10⟩
              have cc_10 := below_step cc_9 hb_10
              have hC_10 : (fun w' : World => (w'.cell? ⟨b5, 0, none⟩ = some (.bool tu.s) ∧ w'.cell? ⟨b5, 1, none⟩ = some (.slice tu.a1 tu.n1 tu.c1) ∧ w'.cell? ⟨b5, 2, none⟩ = some (.slice tu.a2 tu.n2 tu.c2)) ∧ (w'.cell? ⟨b12, 0, none⟩ = some (.bool td.s) ∧ w'.cell? ⟨b12, 1, none⟩ = some (.slice td.a1 td.n1 td.c1) ∧ w'.cell? ⟨b12, 2, none⟩ = some (.slice td.a2 td.n2 td.c2)) ∧ (w'.cell? ⟨g6, m * 3, none⟩ = some (.bool p0.s) ∧ w'.cell? ⟨g6, m * 3 + 1, none⟩ = some (.slice p0.a1 p0.n1 p0.c1) ∧ w'.cell? ⟨g6, m * 3 + 2, none⟩ = some (.slice p0.a2 p0.n2 p0.c2)) ∧ (w'.cell? ⟨g6, (m + 1) * 3, none⟩ = some (.bool p1.s) ∧ w'.cell? ⟨g6, (m + 1) * 3 + 1, none⟩ = some (.slice p1.a1 p1.n1 p1.c1) ∧ w'.cell? ⟨g6, (m + 1) * 3 + 2, none⟩ = some (.slice p1.a2 p1.n2 p1.c2)) ∧ (w'.cell? ⟨g6, (m + 1 + 1) * 3, none⟩ = some (.bool p2.s) ∧ w'.cell? ⟨g6, (m + 1 + 1) * 3 + 1, none⟩ = some (.slice p2.a1 p2.n1 p2.c1) ∧ w'.cell? ⟨g6, (m + 1 + 1) * 3 + 2, none⟩ = some (.slice p2.a2 p2.n2 p2.c2)) ∧ (w'.cell? ⟨g7, m * 3, none⟩ = some (.bool r0.s) ∧ w'.cell? ⟨g7, m * 3 + 1, none⟩ = some (.slice r0.a1 r0.n1 r0.c1) ∧ w'.cell? ⟨g7, m * 3 + 2, none⟩ = some (.slice r0.a2 r0.n2 r0.c2)) ∧ (w'.cell? ⟨g7, (m + 1) * 3, none⟩ = some (.bool r1.s) ∧ w'.cell? ⟨g7, (m + 1) * 3 + 1, none⟩ = some (.slice r1.a1 r1.n1 r1.c1) ∧ w'.cell? ⟨g7, (m + 1) * 3 + 2, none⟩ = some (.slice r1.a2 r1.n2 r1.c2)) ∧ (w'.cell? ⟨g7, (m + 1 + 1) * 3, none⟩ = some (.bool r2.s) ∧ w'.cell? ⟨g7, (m + 1 + 1) * 3 + 1, none⟩ = some (.slice r2.a1 r2.n1 r2.c1) ∧ w'.cell? ⟨g7, (m + 1 + 1) * 3 + 2, none⟩ = some (.slice r2.a2 r2.n2 r2.c2))) xw_10 := unhide HCC _ cc_10
              refine hK.out _ _ hC_10 ?_
              clear hK K
              (try simp only [Act.put, List.setIfInBounds_toArray, List.set_cons_zero, List.set_cons_succ])
              refine wpHold_take (i := 44) (v := ?_) rfl (by kernel_rfl) (by kernel_rfl) (by kernel_rfl) (fun _ _ _ h => h) (Or.inl ⟨by rfl, ?_⟩) hC_10 ?_
              rotate_left
              · intro w hSw; clear hSw; go_simp; (try with_reducible rfl)
              (try simp only [List.getElem_toArray, List.getElem_cons_succ, List.getElem_cons_zero])
              (try simp only [Act.put, List.setIfInBounds_toArray, List.set_cons_zero, List.set_cons_succ])
              refine wpHold_take (i := 45) (v := ?_) rfl (by kernel_rfl) (by kernel_rfl) (by kernel_rfl) (fun _ _ _ h => h) (Or.inl ⟨by rfl, ?_⟩) hC_10 ?_
              rotate_left
              · intro w hSw; clear hSw; go_simp; (try with_reducible rfl)
              (try simp only [List.getElem_toArray, List.getElem_cons_succ, List.getElem_cons_zero])
              (try simp only [Act.put, List.setIfInBounds_toArray, List.set_cons_zero, List.set_cons_succ])
              have HFIN := hide (below_step (unhide HBW) cc_10)
              clear HCC HTB HLIK hC0
              refine wpHold_done (by kernel_rfl) ?_ _
              go_wp2_with fail
              exact ⟨⟨m + 1 + 1, by go_num, by omega, by omega, unhide HFIN⟩, by simp [intOf]; omega⟩
            · obtain rfl : G = n := by omega
              have j1 : ¬ (G : Int) < (G : Int) := by omega
              have j2 : (G : Int) < (G : Int) + 1 := by omega
              have j3 : (0 : Int) ≤ (G : Int) := by omega
              have j4 : (0 : Int) < (G : Int) + 1 := by omega
              have e0 := unhide HGE 0 (by omega)
              have e1 := unhide HGE G (Nat.le_refl _)
              have fz := fsm_num good0 good1 hG1
              have a0 := (unhide K6).rat 0 (by omega)
              have a1 := (unhide K6).rat G (by omega)
              have b0 := (unhide K7).rat 0 (by omega)
              have b1 := (unhide K7).rat G (by omega)
              have ca0 := (unhide K6).cells (j := 0) (by omega)
              have ca1 := (unhide K6).cells (j := G) (by omega)
              have cb0 := (unhide K7).cells (j := 0) (by omega)
              have cb1 := (unhide K7).cells (j := G) (by omega)
              rw [e0.1, lost_zero] at a0
              rw [e1.1, lost_end fz] at a1
              rw [e0.2, times_zero] at b0
              rw [e1.2, times_end fz] at b1
              simp only [Nat.zero_mul, Nat.zero_add] at ca0 cb0
              obtain ⟨p0, hp0⟩ : ∃ t, tl[0]! = t := ⟨_, rfl⟩
              obtain ⟨p1, hp1⟩ : ∃ t, tl[G]! = t := ⟨_, rfl⟩
              obtain ⟨r0, hr0⟩ : ∃ t, tt[0]! = t := ⟨_, rfl⟩
              obtain ⟨r1, hr1⟩ : ∃ t, tt[G]! = t := ⟨_, rfl⟩
              rw [hp0] at a0 ca0
              rw [hp1] at a1 ca1
              rw [hr0] at b0 cb0
              rw [hr1] at b1 cb1
              have CA0 := hide ca0
              have CA1 := hide ca1
              have CB0 := hide cb0
              have CB1 := hide cb1
              have HA1 := hide a1
              have HB0' := hide b0
              have HB1' := hide b1
              have HTX := hide (textR_any p0.val 1 wr a0 1 one_RS' (by decide) (tab_below (unhide HTAB) (below_step (unhide HBf) (below_step (unhide HXB) (unhide HBW)))))
              have hq1 : qtext 1 = [49] := qtext_one
              rw [hq1] at HTX
              have HBA := hide (below_step (unhide HXB) (unhide HBW))
              have hs0 : (0 : Rat).num.sign = 0 := by decide
              clear a0 a1 b0 b1 ca0 ca1 cb0 cb1 hp0 hp1 hr0 hr1 e0 e1 fz hq1 K5 K12 K6 K7 HX5 HX12 HX6 HX7 HMUL HADD HSUB HWH HRU1 HRO HRD
              obtain ⟨y0, y1, y2⟩ := unhide CA0 wr (Below.refl _ _)
              go_wp2_with fail
              refine (unhide HTX).mono ?_
              rintro e v1 ⟨rfl, hb1⟩
              have HC1 := hide hb1
              clear y0 y1 y2 hb1
              obtain ⟨y0, y1, y2⟩ := unhide CA1 v1 (unhide HC1)
              go_wp2_with fail
              refine (sign_any p1.val 0 v1 ((unhide HA1).below (unhide HC1))).mono ?_
              rintro e v2 ⟨rfl, hb2⟩
              have HC2 := hide (below_step (unhide HC1) hb2)
              clear y0 y1 y2 hb2
              rw [hs0]
              obtain ⟨y0, y1, y2⟩ := unhide CB0 v2 (unhide HC2)
              go_wp2_with fail
              refine (sign_any r0.val 0 v2 ((unhide HB0').below (unhide HC2))).mono ?_
              rintro e v3 ⟨rfl, hb3⟩
              have HC3 := hide (below_step (unhide HC2) hb3)
              clear y0 y1 y2 hb3
              rw [hs0]
              obtain ⟨y0, y1, y2⟩ := unhide CB1 v3 (unhide HC3)
              go_wp2_with fail
              refine (sign_any r1.val 0 v3 ((unhide HB1').below (unhide HC3))).mono ?_
              rintro e v4 ⟨rfl, hb4⟩
              have HC4 := hide (below_step (unhide HC3) hb4)
              clear y0 y1 y2 hb4
              rw [hs0]
              go_wp2
              go_ret
              exact ⟨rfl, below_step (unhide HBf) (below_step (unhide HBA) (unhide HC4))⟩
  · have HRE : Hid (∀ W v, RatIs W v u → Calls Tryz.prog 15 #[.int .i64 0, .int .i64 (G : Int), v] W fun e w' => ∃ a b, e = .returned (.tuple #[a, b, .iface 37 (.int .i64 1)]) ∧ RatIs w' a 0 ∧ RatIs w' b 0 ∧ Below W.heap.size W w') := fun W v hv => (ruin_err v u G 0 W hv (unhide RSU) hG1 hG2 (Nat.zero_le _) good).mono (by rintro e w' ⟨rfl, hb⟩; exact ⟨_, _, rfl, rat_zero _, rat_zero _, hb⟩)
    clear good
    go_loopw [8] (fun vn wr => vn = .int .i64 0 ∧ Below w.heap.size w wr ∧ BoxIs wr b5 tu u) (fun _ _ => 0)
    case atStart => exact ⟨rfl, unhide HBf, unhide HXf⟩
    case round =>
      obtain ⟨rfl, bl, X5⟩ := hrel
      have HB_r := hide bl
      have HX_b5_r := hide X5
      have i1 : (0 : Int) ≤ (G : Int) := by omega
      clear bl X5 HBf HXf
      obtain ⟨cb5_0, cb5_1, cb5_2⟩ := (unhide HX_b5_r).cells _ (Below.refl _ _)
      go_wp2_with fail
      clear cb5_0 cb5_1 cb5_2
      refine (unhide HRE _ _ (unhide HX_b5_r).2).mono ?_
      rintro e w_701 ⟨x1, x2, rfl, hx1, hx2, hbx⟩
      obtain ⟨t9, rfl, hr_701⟩ := tri_of hx1
      obtain ⟨t10, rfl, hr2_701⟩ := tri_of hx2
      simp only [Tri.val]
      have HL_b5_b9 := hide (Nat.lt_of_lt_of_le (unhide HX_b5_r).lt hbx.size)
      have HL_b5_b10 := hide (Nat.lt_succ_of_lt (unhide HL_b5_b9))
      have HG_b9 := hide (below_step (unhide HB_r) hbx).size
      have HG_b10 := hide (Nat.le_succ_of_le (unhide HG_b9))
      have HL_b9_b10 := hide (Nat.lt_succ_self w_701.heap.size)
      have hb_701 := below_step (below_step hbx (alloc_below w_701 (.cells #[.bool t9.s, .slice t9.a1 t9.n1 t9.c1, .slice t9.a2 t9.n2 t9.c2] 27))) (alloc_below _ (.cells #[.bool t10.s, .slice t10.a1 t10.n1 t10.c1, .slice t10.a2 t10.n2 t10.c2] 27))
      have HB_702 := hide (below_step (unhide HB_r) hb_701)
      have HX_b5_702 := hide ((unhide HX_b5_r).keep hb_701)
      clear HB_r HX_b5_r
      have HX_b9_701 := hide ((BoxIs.new hr_701).keep (alloc_below _ (.cells #[.bool t10.s, .slice t10.a1 t10.n1 t10.c1, .slice t10.a2 t10.n2 t10.c2] 27)))
      have HX_b10_701 := hide (BoxIs.new (hr2_701.below (alloc_below w_701 (.cells #[.bool t9.s, .slice t9.a1 t9.n1 t9.c1, .slice t9.a2 t9.n2 t9.c2] 27))))
      rw [alloc_size] at HX_b10_701
      obtain ⟨Wb10, hW_701⟩ : ∃ W, (w_701.alloc (.cells #[.bool t9.s, .slice t9.a1 t9.n1 t9.c1, .slice t9.a2 t9.n2 t9.c2] 27)).alloc (.cells #[.bool t10.s, .slice t10.a1 t10.n1 t10.c1, .slice t10.a2 t10.n2 t10.c2] 27) = W := ⟨_, rfl⟩
      obtain ⟨b9, hc_701⟩ : ∃ b, w_701.heap.size = b := ⟨_, rfl⟩
      obtain ⟨b10, hd_701⟩ : ∃ b, b9 + 1 = b := ⟨_, rfl⟩
      rw [hW_701] at HB_702 HX_b5_702 HX_b9_701 HX_b10_701
      simp only [Nat.succ_eq_add_one] at HL_b5_b10 HG_b10 HL_b9_b10
      rw [hc_701] at HX_b9_701 HX_b10_701 HL_b5_b9 HG_b9 HL_b5_b10 HG_b10 HL_b9_b10
      rw [hd_701] at HX_b10_701 HL_b5_b10 HG_b10 HL_b9_b10
      clear hx1 hx2 hr_701 hr2_701 hbx hb_701
      have Hc_701 := hide hc_701
      have Hd_701 := hide hd_701
      clear hc_701 hd_701
      go_wp2_with fail
      rw [unhide Hc_701, unhide Hd_701]
      clear hW_701 Hc_701 Hd_701
      have HTE := hide (tell_errno 1 _ ((unhide HERR).below (unhide HB_702)))
      refine (unhide HTE).mono ?_
      rintro e w_703 ⟨rfl, hbx⟩
      have HB_704 := hide (below_step (unhide HB_702) hbx)
      have HX_b5_704 := hide ((unhide HX_b5_702).keep hbx)
      have HX_b9_704 := hide ((unhide HX_b9_701).keep hbx)
      have HX_b10_704 := hide ((unhide HX_b10_701).keep hbx)
      clear HB_702 HX_b5_702 HX_b9_701 HX_b10_701
      clear hbx
      obtain ⟨cb9_0, cb9_1, cb9_2⟩ := (unhide HX_b9_704).cells _ (Below.refl _ _)
      go_wp2_with fail
      clear cb9_0 cb9_1 cb9_2
      have HS9 := hide (sign_any t9.val 0 _ (unhide HX_b9_704).2)
      refine (unhide HS9).mono ?_
      rintro e w_705 ⟨rfl, hbx⟩
      have HB_706 := hide (below_step (unhide HB_704) hbx)
      have HX_b5_706 := hide ((unhide HX_b5_704).keep hbx)
      have HX_b9_706 := hide ((unhide HX_b9_704).keep hbx)
      have HX_b10_706 := hide ((unhide HX_b10_704).keep hbx)
      clear HB_704 HX_b5_704 HX_b9_704 HX_b10_704
      clear hbx
      have hs0 : (0 : Rat).num.sign = 0 := by decide
      rw [hs0]
      obtain ⟨cb10_0, cb10_1, cb10_2⟩ := (unhide HX_b10_706).cells _ (Below.refl _ _)
      go_wp2_with fail
      clear cb10_0 cb10_1 cb10_2
      have HS10 := hide (sign_any t10.val 0 _ (unhide HX_b10_706).2)
      refine (unhide HS10).mono ?_
      rintro e w_707 ⟨rfl, hbx⟩
      have HB_708 := hide (below_step (unhide HB_706) hbx)
      have HX_b5_708 := hide ((unhide HX_b5_706).keep hbx)
      have HX_b9_708 := hide ((unhide HX_b9_706).keep hbx)
      have HX_b10_708 := hide ((unhide HX_b10_706).keep hbx)
      clear HB_706 HX_b5_706 HX_b9_706 HX_b10_706
      clear hbx
      rw [hs0]
      go_wp2
      go_ret
      exact ⟨rfl, unhide HB_708⟩
end Go.Proofs.YtdicbnchkfclaaaGreatDoor
