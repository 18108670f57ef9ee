/- Numbers put in an order that is told by a comparison. -/
import Derived.Test.YtbbmhidnakghfaaY1
namespace Go.Proofs.Ytbbmhidnakghfaa
open Go.RowKit Go.Sort Stb

/-- What sorted leaves. -/
def SortedPost (w : World) (n : Nat) (cv : Nat → Nat → Int) (e : Ending) (w' : World) : Prop :=
  ∃ (G : Nat) (g : Nat → Nat), w.heap.size ≤ G ∧ e = .returned (.slice (some ⟨G, 0, none⟩) n n) ∧ OwnI w' G n (nI g) ∧ Re 0 n id g ∧ Sr (ltc cv) g 0 n ∧ Below w.heap.size w w'
/-- What a comparison says, whatever was made since. -/
structure Cmps (w : World) (n fk : Nat) (bd : Array Value) (cv : Nat → Nat → Int) : Prop where
  eg : ∀ args w, (callFunc fk args).run Try.prog w = .ok (.enter fk args) w
  cmp : ∀ (a b : Nat) W, a < n → b < n → Below w.heap.size w W → Calls Try.prog fk (#[.int .i64 (a : Int), .int .i64 (b : Int)] ++ bd) W fun e w' => e = .returned (.int .i64 (cv a b)) ∧ Below W.heap.size W w'

set_option maxHeartbeats 8000000 in
set_option maxRecDepth 100000 in
set_option linter.unusedSimpArgs false in
theorem sorted_any (n fk : Nat) (bd : Array Value) (cv : Nat → Nat → Int) (w : World) (hn : n ≤ 10000) (hC : Cmps w n fk bd cv) (hW : Wo n (ltc cv)) :
    Calls Try.prog 16 #[.int .i64 (n : Int), .func (.func fk) #[] bd] w (SortedPost w n cv) := by
  have HCM := hide hC
  have HWO := hide hW
  have mk := make_ints n (by omega) w
  have O0 := hide (make_own w n)
  have B0 := hide (alloc_below w (.cells (lrow (fun _ => 0) n).toArray 3))
  obtain ⟨W0, hW0⟩ : ∃ W, w.alloc (.cells (lrow (fun _ => 0) n).toArray 3) = W := ⟨_, rfl⟩
  rw [hW0] at mk O0 B0
  obtain ⟨G, hG⟩ : ∃ G, w.heap.size = G := ⟨_, rfl⟩
  rw [hG] at mk O0
  have HGe : Hid (w.heap.size ≤ G) := Nat.le_of_eq hG
  clear hW0 hG hC hW
  go_enter Try.func16, Try.ntmps16
  go_wp2_with fail
  clear mk
  go_loopw [11] (fun vi wr => ∃ k : Nat, vi = .int .i64 (k : Int) ∧ k ≤ n ∧ OwnI wr G n (fun i => if i < k then (i : Int) else 0) ∧ Below w.heap.size w wr) (fun vi _ => n - (intOf vi).toNat)
  case atStart => exact ⟨0, rfl, Nat.zero_le _, (unhide O0).congr (fun j _ => by simp), unhide B0⟩
  case round =>
    obtain ⟨k, rfl, hk, hO, hb⟩ := hrel
    by_cases hlt : k < n
    · have e1 : (0 : Int) ≤ (k : Int) := by omega
      have e2 : (k : Int) < (n : Int) := by omega
      have e6 : IntKind.i64.wrap ((k : Int) + 1) = (k : Int) + 1 := by rw [IntKind.wrap_i64]; omega
      have g1 := hO.cell hlt
      have g2 := hO.free k
      obtain ⟨u, g1⟩ : ∃ u : Value, wr.cell? ⟨G, k, none⟩ = some u := ⟨_, g1⟩
      have FIN : Hid (OwnI (wr.setCell ⟨G, k, none⟩ (.int .i64 (k : Int))) G n (fun i => if i < k + 1 then (i : Int) else 0)) := by
        refine (hO.set k (k : Int)).congr fun j hj => ?_
        unfold updI
        by_cases hjk : j = k
        · rw [if_pos hjk, if_pos (by omega), hjk]
        · rw [if_neg hjk]
          show (if j < k then (j : Int) else 0) = _
          by_cases h2 : j < k
          · rw [if_pos h2, if_pos (by omega)]
          · rw [if_neg h2, if_neg (by omega)]
      have FB := hide (hb.setCell (p := ⟨G, k, none⟩) (unhide HGe) (.int .i64 (k : Int)))
      clear hO hb
      go_wp2
      exact ⟨⟨k + 1, by go_num, hlt, unhide FIN, unhide FB⟩, by simp [intOf]; omega⟩
    · obtain rfl : k = n := by omega
      have e1 : ¬ (k : Int) < (k : Int) := by omega
      have hA : At w G k (fun W => Below w.heap.size w W) id wr := ⟨hO.congr fun j hj => by simp [hj], hb, hb⟩
      have CI : CmpInv G k cv fk bd (fun W => Below w.heap.size w W) :=
        ⟨fun W W' h1 h2 => below_step h1 h2, fun W j x lf h1 _ => h1.setCell (unhide HGe) _, (unhide HCM).eg, fun i j W hi hj hW => (unhide HCM).cmp i j W hi hj hW⟩
      have HS := hide (sortStable_any G k id cv fk bd w wr (fun W => Below w.heap.size w W) CI (unhide HWO) (by omega) (unhide HGe) hA (fun i hi => hi) (id_stl _ _))
      clear hA CI hO hb
      go_wp2_with fail
      (try simp only [Exit.inBlock, Exit.then])
      (try go_wp2_with fail)
      refine (unhide HS).mono ?_
      rintro e w4 ⟨rfl, g', hA, hre, hsr⟩
      have HA4 := hide hA
      have HRE := hide hre
      have HSR := hide hsr
      clear hA hre hsr HS
      go_wp2
      go_ret
      exact ⟨G, g', unhide HGe, rfl, (unhide HA4).own, unhide HRE, unhide HSR, (unhide HA4).bl⟩

def early (t : T2) : Bool := decide (t.1 ≤ t.2)
set_option maxHeartbeats 1000000 in
theorem johnson1_any (t : T2) (w : World) : Calls Try.prog 15 #[.agg #[.int .i64 t.1, .int .i64 t.2]] w fun e w' => e = .returned (.bool (early t)) ∧ Below w.heap.size w w' := by
  obtain ⟨x, y⟩ := t
  have HB := hide (alloc_below w (.cells #[.int .i64 x, .int .i64 y] 37))
  unfold early
  simp only
  go_enter Try.func15, Try.ntmps15
  go_wp2
  go_ret
  exact ⟨rfl, unhide HB⟩
/-- Johnson's comparison. -/
def ncmp (a b : T2) : Int := if early a = true ∧ early b = true then cmpI a.1 b.1 else if early a = true then -1 else if early b = true then 1 else cmpI b.2 a.2
theorem ncmp_lt (a b : T2) : ncmp a b < 0 ↔ ((a.1 ≤ a.2 ∧ b.1 ≤ b.2 ∧ a.1 < b.1) ∨ (a.1 ≤ a.2 ∧ b.2 < b.1) ∨ (a.2 < a.1 ∧ b.2 < b.1 ∧ b.2 < a.2)) := by
  unfold ncmp early
  simp only [decide_eq_true_eq]
  by_cases h1 : a.1 ≤ a.2
  · by_cases h2 : b.1 ≤ b.2
    · rw [if_pos ⟨h1, h2⟩, cmpI_lt]; omega
    · rw [if_neg (fun h => h2 h.2), if_pos h1]; omega
  · by_cases h2 : b.1 ≤ b.2
    · rw [if_neg (fun h => h1 h.1), if_neg h1, if_pos h2]; omega
    · rw [if_neg (fun h => h1 h.1), if_neg h1, if_neg h2, cmpI_lt]; omega
theorem ncmp_key {f : Nat → T2} (x y : Nat) : ltc (fun i k => ncmp (f i) (f k)) x y = decide (((f x).1 ≤ (f x).2 ∧ (f y).1 ≤ (f y).2 ∧ (f x).1 < (f y).1) ∨ ((f x).1 ≤ (f x).2 ∧ (f y).2 < (f y).1) ∨ ((f x).2 < (f x).1 ∧ (f y).2 < (f y).1 ∧ (f y).2 < (f x).2)) := by
  unfold ltc
  rw [decide_eq_decide]
  exact ncmp_lt _ _
theorem wo_n {n : Nat} {f : Nat → T2} : Wo n (ltc (fun i k => ncmp (f i) (f k))) := by
  refine ⟨fun x y _ _ h => ?_, fun x y z _ _ _ h1 h2 => ?_⟩
  · rw [ncmp_key] at h ⊢
    have := of_decide_eq_true h
    exact decide_eq_false (by omega)
  · rw [ncmp_key] at h1 h2 ⊢
    have k1 := of_decide_eq_false h1
    have k2 := of_decide_eq_false h2
    exact decide_eq_false (by omega)
/-- Longest's, Hu's comparison: the greater one first. -/
theorem wo_g {n : Nat} {l : Nat → Int} : Wo n (ltc (fun i k => cmpI (l k) (l i))) := by
  have key : ∀ x y, ltc (fun i k => cmpI (l k) (l i)) x y = decide (l y < l x) := fun x y => by
    unfold ltc
    rw [decide_eq_decide]
    exact cmpI_lt
  refine ⟨fun x y _ _ h => ?_, fun x y z _ _ _ h1 h2 => ?_⟩
  · rw [key] at h ⊢
    have := of_decide_eq_true h
    exact decide_eq_false (by omega)
  · rw [key] at h1 h2 ⊢
    have k1 := of_decide_eq_false h1
    have k2 := of_decide_eq_false h2
    exact decide_eq_false (by omega)

def lcode (n : Nat) (l : Nat → Int) (m : Int) : Int := if m < 1 ∨ 20 < m ∨ 60 < n then 4 else if (List.range n).any (fun j => decide (¬ (0 ≤ l j ∧ l j ≤ 1000000000))) then 2 else 0
theorem lcode_bad {n j : Nat} {l : Nat → Int} {m : Int} (hn : ¬ (m < 1 ∨ 20 < m ∨ 60 < n)) (hj : j < n) (h : ¬ (0 ≤ l j ∧ l j ≤ 1000000000)) : lcode n l m = 2 := by
  unfold lcode
  rw [if_neg hn, if_pos]
  rw [List.any_eq_true]
  exact ⟨j, List.mem_range.2 hj, decide_eq_true h⟩
theorem lcode_good {n : Nat} {l : Nat → Int} {m : Int} (hn : ¬ (m < 1 ∨ 20 < m ∨ 60 < n)) (h : ∀ j, j < n → 0 ≤ l j ∧ l j ≤ 1000000000) : lcode n l m = 0 := by
  unfold lcode
  rw [if_neg hn, if_neg]
  intro h'
  rw [List.any_eq_true] at h'
  obtain ⟨j, h1, h2⟩ := h'
  exact of_decide_eq_true h2 (h j (List.mem_range.1 h1))
/-- Lengths that may be. -/
structure GoodL (n : Nat) (l : Nat → Int) (m : Int) : Prop where
  few : n ≤ 60
  m1 : 1 ≤ m
  m20 : m ≤ 20
  l : ∀ i, i < n → 0 ≤ l i ∧ l i ≤ 1000000000
theorem goodL_of {n : Nat} {l : Nat → Int} {m : Int} (h : lcode n l m = 0) : GoodL n l m := by
  unfold lcode at h
  by_cases c : m < 1 ∨ 20 < m ∨ 60 < n
  · rw [if_pos c] at h; exact absurd h (by decide)
  · rw [if_neg c] at h
    by_cases c2 : (List.range n).any (fun j => decide (¬ (0 ≤ l j ∧ l j ≤ 1000000000))) = true
    · rw [if_pos c2] at h; exact absurd h (by decide)
    · refine ⟨by omega, by omega, by omega, fun i hi => ?_⟩
      rcases Classical.em (0 ≤ l i ∧ l i ≤ 1000000000) with c3 | c3
      · exact c3
      · exact absurd (List.any_eq_true.2 ⟨i, List.mem_range.2 hi, decide_eq_true c3⟩) c2

end Go.Proofs.Ytbbmhidnakghfaa
