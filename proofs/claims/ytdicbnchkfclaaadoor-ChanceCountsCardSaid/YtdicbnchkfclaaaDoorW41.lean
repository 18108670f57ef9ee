/- Two numbers mixed in place: the mathematics, and what the loop keeps. -/
import Derived.Test.YtdicbnchkfclaaaDoorB3
namespace Go.Proofs.YtdicbnchkfclaaaDoor
open Go.RowKit Go.Sort Go.Shelf

theorem mix_val {ex dx dy : Array Int} {i : Nat} {x y p q ca ch bo : Int} (hi : i < ex.size) (hx : dx[i]! = x) (hy : dy[i]! = y) (hb0 : 0 ≤ bo) (hb1 : bo ≤ 1)
    (hv : Wd.vl (fun j => ex[j]!) i = p * Wd.vl (fun j => dx[j]!) i - q * Wd.vl (fun j => dy[j]!) i + Wd.pw i * (ch + bo - ca)) :
    Wd.vl (fun j => (ex.setIfInBounds i (((p * x + ca) % 18446744073709551616 - (q * y + ch) % 18446744073709551616 - bo) % 18446744073709551616))[j]!) (i + 1) =
      p * Wd.vl (fun j => dx[j]!) (i + 1) - q * Wd.vl (fun j => dy[j]!) (i + 1) + Wd.pw (i + 1) * ((q * y + ch) / 18446744073709551616 + bor ((p * x + ca) % 18446744073709551616) ((q * y + ch) % 18446744073709551616 + bo) - (p * x + ca) / 18446744073709551616) := by
  rw [vl_set ex i _ hi, Wd.vl_succ, Wd.vl_succ, hx, hy, Wd.pw_succ, hv]
  have e1 := Int.emod_add_mul_ediv (p * x + ca) 18446744073709551616
  have e2 := Int.emod_add_mul_ediv (q * y + ch) 18446744073709551616
  have m1 : 0 ≤ (p * x + ca) % 18446744073709551616 := by omega
  have m2 : (p * x + ca) % 18446744073709551616 < 18446744073709551616 := by omega
  have m3 : 0 ≤ (q * y + ch) % 18446744073709551616 := by omega
  have m4 : (q * y + ch) % 18446744073709551616 < 18446744073709551616 := by omega
  generalize (p * x + ca) % 18446744073709551616 = a at *
  generalize (q * y + ch) % 18446744073709551616 = t at *
  generalize (p * x + ca) / 18446744073709551616 = ca' at *
  generalize (q * y + ch) / 18446744073709551616 = ch' at *
  have e := bor_eq a (t + bo) m1 m2 (by omega) (by omega)
  rw [show a - t - bo = a - (t + bo) by omega, e]
  generalize bor a (t + bo) = z at *
  generalize Wd.pw i = P at *
  generalize Wd.vl (fun j => dx[j]!) i = X at *
  generalize Wd.vl (fun j => dy[j]!) i = Y at *
  have f1 : p * (X + P * x) = p * X + P * (p * x) := by grind
  have f2 : q * (Y + P * y) = q * Y + P * (q * y) := by grind
  have f3 : p * x = a + 18446744073709551616 * ca' - ca := by omega
  have f4 : q * y = t + 18446744073709551616 * ch' - ch := by omega
  rw [f1, f2, f3, f4]
  grind

/-- What comes out is the number meant. -/
theorem mix_fin {V P p q X Y kx ky c T : Int} (h : V = p * X - q * Y + P * c) (h0 : 0 ≤ V) (h1 : V < P) (hT : T = p * (X + P * kx) - q * (Y + P * ky)) (t0 : 0 ≤ T) (t1 : T < P) : V = T := by
  have e : T - V = P * (p * kx - q * ky - c) := by subst h hT; grind
  generalize p * kx - q * ky - c = d at e
  rcases Int.lt_trichotomy d 0 with hd | hd | hd
  · have : P * d ≤ P * (-1) := Int.mul_le_mul_of_nonneg_left (by omega) (by omega)
    omega
  · subst hd; omega
  · have : P * 1 ≤ P * d := Int.mul_le_mul_of_nonneg_left (by omega) (by omega)
    omega

theorem vl_upper (d : Array Int) (n m : Nat) (h : n ≤ m) : ∃ k, Wd.vl (fun j => d[j]!) m = Wd.vl (fun j => d[j]!) n + Wd.pw n * k := by
  obtain ⟨r, rfl⟩ := Nat.exists_eq_add_of_le h
  exact ⟨_, Wd.vl_split _ n r⟩

/-- The first words of block g, which is a row of the call's own with room behind them perhaps. -/
def HeadRow (w : World) (g : Nat) (d : Array Int) : Prop := ∃ cur, w.heap[g]? = some (.cells cur 79 (0, 0)) ∧ ∀ j, j < d.size → cur[j]? = some (enc d[j]!)
theorem OwnRow.head {w : World} {g : Nat} {d : Array Int} (h : OwnRow w g d) : HeadRow w g d := by
  refine ⟨_, h, fun j hj => ?_⟩
  rw [getElem!_pos d j hj]
  simp [hj]
theorem HeadRow.lt {w : World} {g : Nat} {d : Array Int} (h : HeadRow w g d) : g < w.heap.size := by
  obtain ⟨cur, h, _⟩ := h
  exact (Array.getElem?_eq_some_iff.1 h).1
theorem HeadRow.holds {w : World} {g : Nat} {d : Array Int} (h : HeadRow w g d) : Holds enc w g 0 d := fun j hj => by
  obtain ⟨cur, h, hc⟩ := h
  refine ⟨?_, ?_⟩
  · simp only [World.cell?, h]
    simpa using hc j hj
  · simp [World.frozen?, h]
theorem HeadRow.rowIs {w : World} {g : Nat} {d : Array Int} {c : Nat} (h : HeadRow w g d) (h1 : d.size ≤ c) (h2 : c ≤ 9223372036854775807) : RowIs w (some ⟨g, 0, none⟩) d.size c (fun j => d[j]!) :=
  ⟨h1, h2, fun _ => ⟨g, 0, rfl, h.lt, fun j hj => (h.holds j hj).1⟩⟩
theorem HeadRow.below {w w' : World} {g B : Nat} {d : Array Int} (h : HeadRow w g d) (hb : Below B w w') (hg : g < B) : HeadRow w' g d := by
  obtain ⟨cur, h, hc⟩ := h
  exact ⟨cur, by rw [hb.block g hg]; exact h, hc⟩
theorem head_set {w : World} {g : Nat} {d : Array Int} {i : Nat} {x : Int} (h : HeadRow w g d) (hi : i < d.size) : HeadRow (w.setCell ⟨g, i, none⟩ (.int .u64 x)) g (d.setIfInBounds i x) := by
  obtain ⟨cur, h, hc⟩ := h
  rw [setCell_eq]
  refine ⟨cur.setIfInBounds i (.int .u64 x), ?_, fun j hj => ?_⟩
  · simp [mapBlock, Array.getElem?_modify, h, onCells]
  · rw [Array.size_setIfInBounds] at hj
    have hcs : i < cur.size := (Array.getElem?_eq_some_iff.1 (hc i hi)).1
    rcases Decidable.em (j = i) with rfl | hji
    · rw [getElem!_set_same d j x hi]; simp [hcs]
    · rw [getElem!_set_other d i j x hji, Array.getElem?_setIfInBounds_ne (Ne.symm hji)]; exact hc j hj
theorem head_set_other {w : World} {g g' i : Nat} {d : Array Int} {x : Value} (h : HeadRow w g d) (hne : g ≠ g') : HeadRow (w.setCell ⟨g', i, none⟩ x) g d := by
  obtain ⟨cur, h, hc⟩ := h
  rw [setCell_eq]
  refine ⟨cur, ?_, hc⟩
  simp only [mapBlock, Array.getElem?_modify]
  rw [if_neg (Ne.symm hne)]
  exact h

/-- What the loop that mixes keeps. -/
structure DoneAt (base hs : Nat) (w0 wr : World) (gx gy g1 g2 i : Nat) (dx dy : Array Int) (p q r s : Int) (ex ey : Array Int) (ca1 ch1 bo1 ca2 ch2 bo2 : Int) : Prop where
  ox : HeadRow wr gx ex
  oy : HeadRow wr gy ey
  sx : ex.size = dx.size
  sy : ey.size = dy.size
  wx : ∀ j, j < dx.size → Wd.W64 ex[j]!
  wy : ∀ j, j < dy.size → Wd.W64 ey[j]!
  rx : ∀ j, i ≤ j → ex[j]! = dx[j]!
  ry : ∀ j, i ≤ j → ey[j]! = dy[j]!
  m1 : MixIs wr g1 p q ca1 ch1 bo1
  m2 : MixIs wr g2 r s ca2 ch2 bo2
  b1 : Wd.W64 ca1 ∧ Wd.W64 ch1 ∧ 0 ≤ bo1 ∧ bo1 ≤ 1
  b2 : Wd.W64 ca2 ∧ Wd.W64 ch2 ∧ 0 ≤ bo2 ∧ bo2 ≤ 1
  vx : Wd.vl (fun j => ex[j]!) i = p * Wd.vl (fun j => dx[j]!) i - q * Wd.vl (fun j => dy[j]!) i + Wd.pw i * (ch1 + bo1 - ca1)
  vy : Wd.vl (fun j => ey[j]!) i = r * Wd.vl (fun j => dy[j]!) i - s * Wd.vl (fun j => dx[j]!) i + Wd.pw i * (ch2 + bo2 - ca2)
  bl : Below base w0 wr
  sz : wr.heap.size = hs

theorem Apart.head {g k : Nat} {w w' : World} {d : Array Int} (h : Apart g w w') (ho : HeadRow w k d) (hne : k ≠ g) : HeadRow w' k d := by
  obtain ⟨cur, ho, hc⟩ := ho
  exact ⟨cur, by rw [h.block k hne]; exact ho, hc⟩
theorem Apart.mix {g k : Nat} {w w' : World} {p q ca ch bo : Int} (h : Apart g w w') (ho : MixIs w k p q ca ch bo) (hne : k ≠ g) : MixIs w' k p q ca ch bo := by
  unfold MixIs at *; rw [h.block k hne]; exact ho
theorem Apart.below {g B : Nat} {w w' : World} (h : Apart g w w') (hg : B ≤ g) : Below B w w' := ⟨h.os, h.tape, h.output, by rw [h.size]; exact Nat.le_refl _, fun k hk => h.block k (by omega)⟩
theorem mix_other {w : World} {g k i : Nat} {v : Value} {p q ca ch bo : Int} (h : MixIs w k p q ca ch bo) (hne : k ≠ g) : MixIs (w.setCell ⟨g, i, none⟩ v) k p q ca ch bo := by
  rw [setCell_eq]
  unfold MixIs at *
  simp only [mapBlock, Array.getElem?_modify]
  rw [if_neg (Ne.symm hne)]
  exact h

theorem carry_w {p x ca : Int} (hp : Wd.W64 p) (hx : Wd.W64 x) (hc : Wd.W64 ca) : Wd.W64 ((p * x + ca) / 18446744073709551616) := by
  have := mul_word_lt hp hx
  have := hc.1
  have := hc.2
  exact ⟨by omega, by omega⟩

theorem DoneAt.step {base hs : Nat} {w0 wr w1 w2 : World} {gx gy g1 g2 i : Nat} {dx dy : Array Int} {p q r s : Int} {ex ey : Array Int} {ca1 ch1 bo1 ca2 ch2 bo2 : Int}
    (h : DoneAt base hs w0 wr gx gy g1 g2 i dx dy p q r s ex ey ca1 ch1 bo1 ca2 ch2 bo2) (hp : Wd.W64 p) (hq : Wd.W64 q) (hr : Wd.W64 r) (hs' : Wd.W64 s) (hx : i < dx.size) (hy : i < dy.size)
    (n1 : gx ≠ gy) (n2 : gx ≠ g1) (n3 : gx ≠ g2) (n4 : gy ≠ g1) (n5 : gy ≠ g2) (n6 : g1 ≠ g2) (hbx : base ≤ gx) (hby : base ≤ gy) (hb1 : base ≤ g1) (hb2 : base ≤ g2)
    (M1 : MixIs w1 g1 p q ((p * dx[i]! + ca1) / 18446744073709551616) ((q * dy[i]! + ch1) / 18446744073709551616) (bor ((p * dx[i]! + ca1) % 18446744073709551616) ((q * dy[i]! + ch1) % 18446744073709551616 + bo1))) (A1 : Apart g1 wr w1)
    (M2 : MixIs w2 g2 r s ((r * dy[i]! + ca2) / 18446744073709551616) ((s * dx[i]! + ch2) / 18446744073709551616) (bor ((r * dy[i]! + ca2) % 18446744073709551616) ((s * dx[i]! + ch2) % 18446744073709551616 + bo2))) (A2 : Apart g2 w1 w2) :
    ∃ ex' ey' ca1' ch1' bo1' ca2' ch2' bo2', DoneAt base hs w0 ((w2.setCell ⟨gx, i, none⟩ (.int .u64 (((p * dx[i]! + ca1) % 18446744073709551616 - (q * dy[i]! + ch1) % 18446744073709551616 - bo1) % 18446744073709551616))).setCell ⟨gy, i, none⟩
      (.int .u64 (((r * dy[i]! + ca2) % 18446744073709551616 - (s * dx[i]! + ch2) % 18446744073709551616 - bo2) % 18446744073709551616))) gx gy g1 g2 (i + 1) dx dy p q r s ex' ey' ca1' ch1' bo1' ca2' ch2' bo2' := by
  have wxi : Wd.W64 dx[i]! := by rw [← h.rx i (Nat.le_refl _)]; exact h.wx i hx
  have wyi : Wd.W64 dy[i]! := by rw [← h.ry i (Nat.le_refl _)]; exact h.wy i hy
  have ox2 := A2.head (A1.head h.ox n2) n3
  have oy2 := A2.head (A1.head h.oy n4) n5
  refine ⟨ex.setIfInBounds i _, ey.setIfInBounds i _, _, _, _, _, _, _, head_set_other (head_set ox2 (by rw [h.sx]; exact hx)) n1, head_set (head_set_other oy2 (Ne.symm n1)) (by rw [h.sy]; exact hy), by simpa using h.sx, by simpa using h.sy, ?_, ?_, ?_, ?_, mix_other (mix_other (A2.mix M1 n6) (Ne.symm n2)) (Ne.symm n4), mix_other (mix_other M2 (Ne.symm n3)) (Ne.symm n5), ?_, ?_, ?_, ?_, ?_, ?_⟩
  · exact words_set h.wx (mod_w _) (by rw [h.sx]; exact hx)
  · exact words_set h.wy (mod_w _) (by rw [h.sy]; exact hy)
  · intro j hj; rw [getElem!_set_other ex i j _ (by omega)]; exact h.rx j (by omega)
  · intro j hj; rw [getElem!_set_other ey i j _ (by omega)]; exact h.ry j (by omega)
  · exact ⟨carry_w hp wxi h.b1.1, carry_w hq wyi h.b1.2.1, (bor_bd _ _).1, (bor_bd _ _).2⟩
  · exact ⟨carry_w hr wyi h.b2.1, carry_w hs' wxi h.b2.2.1, (bor_bd _ _).1, (bor_bd _ _).2⟩
  · exact mix_val (by rw [h.sx]; exact hx) rfl rfl h.b1.2.2.1 h.b1.2.2.2 h.vx
  · exact mix_val (by rw [h.sy]; exact hy) rfl rfl h.b2.2.2.1 h.b2.2.2.2 h.vy
  · exact (((h.bl.trans (A1.below hb1)).trans (A2.below hb2)).trans (below_setCell hbx)).trans (below_setCell hby)
  · rw [size_setCell, size_setCell, A2.size, A1.size]; exact h.sz
end Go.Proofs.YtdicbnchkfclaaaDoor
