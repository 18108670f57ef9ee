/- Round ways: pieces turned over, by the document. -/
import Derived.Test.YtcmddkekidgkoaaDoorTT6
import Derived.Test.YtcmddkekidgkoaaDoorTE7
namespace Go.Proofs.YtcmddkekidgkoaaDoor
open Go.RowKit Go.Sort Go.Shelf

def fstI (f : Nat → Int) (n : Nat) : List Int := (List.range n).map f
theorem fstI_length (f : Nat → Int) (n : Nat) : (fstI f n).length = n := by simp [fstI]
theorem fstI_succ (f : Nat → Int) (n : Nat) : fstI f (n + 1) = fstI f n ++ [f n] := by unfold fstI; rw [List.range_succ, List.map_append]; rfl
theorem fstI_congr {f g : Nat → Int} {n : Nat} (h : ∀ j, j < n → f j = g j) : fstI f n = fstI g n := by
  unfold fstI; exact List.map_congr_left fun j hj => h j (List.mem_range.1 hj)
theorem fstI_add (f : Nat → Int) (a : Nat) : ∀ b, fstI f (a + b) = fstI f a ++ fstI (fun j => f (a + j)) b
  | 0 => by simp [fstI]
  | b + 1 => by
    show fstI f (a + b + 1) = _
    rw [fstI_succ, fstI_succ, fstI_add f a b, List.append_assoc]
theorem fstI_get (f : Nat → Int) {n j : Nat} (h : j < n) : (fstI f n)[j]! = f j := by simp [fstI, h]
/-- A row is put behind another one. -/
theorem OwnL.app {w : World} {B : Nat} {v : Value} {xs : List Int} {a : Option Addr} {n c : Nat} {f : Nat → Int} (h : OwnL w B v xs) (hx : IRow w a n c f) (hn : xs.length + n ≤ 100000) (hB : B ≤ w.heap.size) (ty : TypeId) :
    ∃ v' w', (Builtin.append_ #[31, 31] ty #[v, .slice a n c]).run Tryd.prog w = .ok v' w' ∧ OwnL w' B v' (xs ++ fstI f n) ∧ w.grownBy w' v.ownBlock := by
  obtain ⟨i, hi, hz0, hz1, hz2⟩ := info_parts Tryd.infoI
  have hlen : (xs ++ fstI f n).length = xs.length + n := by rw [List.length_append, fstI_length]
  cases a with
  | none =>
    obtain rfl : n = 0 := by
      rcases Nat.eq_zero_or_pos n with h0 | h0
      · exact h0
      · obtain ⟨_, _, e, _⟩ := hx.2.2 h0
        cases e
    have hs : Src Tryd.prog i.size 31 (.slice none 0 c) 0 [] w := Src.ofNil w Tryd.underlying31 c
    obtain ⟨a', c', rfl, ht⟩ := h.irow
    refine ⟨_, w, run_append_nothing w 31 31 ty 3 i Tryd.underlying31 hi a' _ _ ht.1 _ hs, ?_, ⟨rfl, rfl, rfl, Nat.le_refl _, fun _ _ _ => rfl⟩⟩
    have e : xs ++ fstI f 0 = xs := by simp [fstI]
    rw [e]; exact h
  | some ad =>
    have hn0 : ∀ j u, ((fstI f n).map (Value.int .i64 ·))[j]? = some u → w.cell? (ad.add j) = some u := by
      rcases Nat.eq_zero_or_pos n with h0 | h0
      · subst h0
        intro j u hu
        simp [fstI] at hu
      · obtain ⟨b, o, e, _, hc⟩ := hx.2.2 h0
        obtain rfl := Option.some.inj e
        intro j u hu
        have hj : j < n := by
          have := (List.getElem?_eq_some_iff.1 hu).1
          rw [List.length_map, fstI_length] at this; exact this
        have hu2 : u = .int .i64 (f j) := by
          have : ((fstI f n).map (Value.int .i64 ·))[j]? = some (.int .i64 (f j)) := by simp [fstI, hj]
          rw [this] at hu; exact (Option.some.inj hu).symm
        have hcj := hc j hj
        rw [hu2]
        by_cases hj0 : j = 0
        · subst hj0; simpa [Addr.add] using hcj
        · simpa [Addr.add, hj0] using hcj
    obtain ⟨v', w', h1, h2, h3, _⟩ := run_append_own w B 31 ty 3 i _ 1 8 Tryd.underlying31 hi hz0 hz1 hz2 rfl (by decide) v xs.length (xs.map (Value.int .i64 ·)) h ad n c ((fstI f n).map (Value.int .i64 ·)) (by rw [List.length_map, fstI_length, Nat.mul_one]) hn0 (by intro u hu; obtain ⟨x, _, rfl⟩ := List.mem_map.1 hu; rfl) (by unfold maxLen; omega) (by omega) hB
    refine ⟨v', w', h1, ?_, h3⟩
    unfold OwnL
    rw [hlen, List.map_append]
    exact h2
theorem OwnL.empty (w : World) : OwnL (w.alloc (.cells #[] 3)) w.heap.size (.slice (some ⟨w.heap.size, 0, none⟩) 0 0) [] :=
  ⟨rfl, Or.inr ⟨w.heap.size, 0, #[], rfl, Nat.le_refl _, heap_alloc_new w _, by simp, by simp, by simp, by simp⟩⟩
/-- A value is a row of numbers. -/
def SlI (w : World) (v : Value) (p : Nat) (V : Nat → Int) : Prop := ∃ a c, v = .slice a p c ∧ IRow w a p c V
theorem OwnL.sl {w : World} {B : Nat} {v : Value} {p : Nat} {V : Nat → Int} (h : OwnL w B v (fstI V p)) : SlI w v p V := by
  obtain ⟨a, c, hv, hr⟩ := h.irow
  rw [fstI_length] at hv hr
  obtain ⟨h1, h2, h3⟩ := hr
  refine ⟨a, c, hv, h1, h2, fun hp => ?_⟩
  obtain ⟨b, o, e, hb, hc⟩ := h3 hp
  exact ⟨b, o, e, hb, fun j hj => by rw [hc j hj]; simp only [fstI_get V hj]⟩
theorem SlI.keep {w w' : World} {v : Value} {p : Nat} {V : Nat → Int} (h : SlI w v p V) (hb : Below w.heap.size w w') : SlI w' v p V := by
  obtain ⟨a, c, hv, hr⟩ := h
  exact ⟨a, c, hv, hr.below hb⟩
/-- The number at a place of a row. -/
def valN (w : World) (v : Value) (j : Nat) : Int := match v with | .slice (some ⟨b, o, _⟩) _ _ => cellN w b (o + j) | _ => 0
theorem SlI.valN {w : World} {v : Value} {p : Nat} {V : Nat → Int} (h : SlI w v p V) {j : Nat} (hj : j < p) : valN w v j = V j := by
  obtain ⟨a, c, rfl, hr⟩ := h
  obtain ⟨b, o, rfl, _, hc⟩ := hr.2.2 (by omega)
  show cellN w b (o + j) = V j
  unfold cellN
  rw [hc j hj]
/-- What the document's Better returns. -/
def B19 (w : World) (R : Nat → Nat → Int) (n : Nat) (V : Nat → Int) (e : Ending) (w' : World) : Prop := ∃ v U, e = .returned v ∧ SlI w' v n U ∧ EndB R n V U ∧ Below w.heap.size w w'
/-- One turn that helps was found. -/
def Fnd (R : Nat → Nat → Int) (n : Nat) (V V' : Nat → Int) (W : World) (v : Value) : Prop := ∃ T, SlI W v n T ∧ RngV n n T ∧ (∀ U, EndB R n T U → EndB R n V U) ∧ lngW R T n < lngW R V' n
theorem IRow.part {w : World} {b o n c l d lo : Nat} {V : Nat → Int} (h : IRow w (some ⟨b, o, none⟩) n c V) (h1 : lo + l ≤ n) (h2 : l ≤ d) (h3 : d ≤ 9223372036854775807) : IRow w (some ⟨b, o + lo, none⟩) l d (fun j => V (lo + j)) := by
  refine ⟨h2, h3, fun hp => ?_⟩
  obtain ⟨b', o', e, hb, hc⟩ := h.2.2 (by omega)
  injection e with e; injection e with e1 e2
  subst e1 e2
  exact ⟨b, o + lo, rfl, hb, fun j hj => by rw [Nat.add_assoc]; exact hc (lo + j) (by omega)⟩
set_option maxHeartbeats 16000000 in
set_option maxRecDepth 100000 in
set_option linter.unusedSimpArgs false in
theorem Better19_any (a : Option Addr) (n c : Nat) (H : Nat → Option Addr × Nat × Nat) (R : Nat → Nat → Int) (va : Option Addr) (vc : Nat) (V : Nat → Int) (w : World) (hr : RRow w a n c H R) (hv : IRow w va n vc V) (hG : GMap n R (lnH H)) (hRg : RngV n n V) :
    Calls Tryd.prog 40 #[.slice a n c, .slice va n vc] w (B19 w R n V) := by
  have HR := hide hr
  have HV := hide hv
  have HG := hide hG
  have HRG := hide hRg
  have q1 := hr.1
  have q2 := hr.2.1
  have q3 := hv.1
  have q4 := hv.2.1
  have h9 := hG.few
  clear hr hv hG hRg
  have E0 := OwnL.empty w
  have B0 := alloc_below w (.cells #[] 3)
  obtain ⟨v1, w1, h1, O1, G1⟩ := OwnL.app E0 ((unhide HV).below B0) (by simp; omega) B0.size 31
  have B1 := OwnL.grow E0 B0 (Nat.le_refl _) (Below.refl _ _) G1
  have HO1 : Hid (OwnL w1 w.heap.size v1 (fstI V n)) := O1
  have HB1 := hide B1
  clear O1 G1 B1 E0 B0 HV
  obtain ⟨ti, hti, hz0, hz1, hz2⟩ := info_parts Tryd.infoI
  have HI := hide hti
  have HZ := hide hz0
  clear hti hz0
  go_enter Tryd.func40, Tryd.ntmps40
  go_wp2_with (at_builtin; go_loud (refine Go.Lib.wpList_append_run _ rfl _ _ 31 31 rfl _ _ rfl rfl _ _ h1 ?_))
  clear h1
  go_loopw [5, 6, 7, 8, 9, 10] (fun v5 _ _ _ _ _ wr => ∃ V', SlI wr v5 n V' ∧ RngV n n V' ∧ (∀ U, EndB R n V' U → EndB R n V U) ∧ Below w.heap.size w wr) (fun v5 _ _ _ _ _ wr => (lngW R (valN wr v5) n).toNat)
  case atStart => exact ⟨V, (unhide HO1).sl, unhide HRG, fun U h => h, unhide HB1⟩
  case round =>
    obtain ⟨V', hSl, hRg, hEnd, hb⟩ := hrel
    obtain ⟨wq, hwq⟩ : ∃ W, W = wr := ⟨_, rfl⟩
    rw [← hwq] at hSl hb ⊢
    have HRG2 := hide hRg
    have HEND := hide hEnd
    have HB2 := hide hb
    have HME0 : lngW R (valN wq u5) n = lngW R V' n := lngW_congr R fun j hj => hSl.valN hj
    obtain ⟨a5, c5, rfl, hI5⟩ := hSl
    have HME := hide HME0
    have HI5 := hide hI5
    have q5 := hI5.1
    have q6 := hI5.2.1
    clear hRg hEnd hb hwq HO1 HB1 HME0 hI5
    go_wp2_with fail
    go_loopw [7, 5, 6, 8, 9, 10] (fun v7 v5 v6 _ _ _ ws => ∃ i : Nat, v7 = .int .i64 (i : Int) ∧ 1 ≤ i ∧ (i ≤ n ∨ i = 1) ∧ Below wq.heap.size wq ws ∧ ((v6 = .bool false ∧ v5 = .slice a5 n c5 ∧ ∀ x y, x < i → 1 ≤ x → x < y → y < n → sB R V' n x y = false) ∨ (v6 = .bool true ∧ Fnd R n V V' ws v5))) (fun v7 _ _ _ _ _ _ => n + 1 - (intOf v7).toNat)
    case atStart => exact ⟨1, rfl, Nat.le_refl _, Or.inr rfl, Below.refl _ _, Or.inl ⟨rfl, rfl, fun x y h1 h2 => by omega⟩⟩
    case round =>
      obtain ⟨i, rfl, hi1, hin, hbs, hcase⟩ := hrel
      obtain ⟨ws, hws⟩ : ∃ W, W = wr := ⟨_, rfl⟩
      rw [← hws] at hbs hcase ⊢
      have HBS := hide hbs
      clear hbs hws
      rcases hcase with ⟨rfl, rfl, hno⟩ | ⟨rfl, hf⟩
      case inr =>
        obtain ⟨T, ⟨a9, c9, rfl, hI9⟩, hT2, hT3, hT4⟩ := hf
        have q7 := hI9.1
        have q8 := hI9.2.1
        have hT1 : SlI ws (.slice a9 n c9) n T := ⟨a9, c9, rfl, hI9⟩
        have HF1 := hide hT1
        clear hI9
        have HF2 := hide hT2
        have HF3 := hide hT3
        have HM1 : Hid ((lngW R (valN ws (.slice a9 n c9)) n).toNat < (lngW R (valN wq (.slice a5 n c5)) n).toNat) := by
          have e1 : lngW R (valN ws (.slice a9 n c9)) n = lngW R T n := lngW_congr R fun j hj => hT1.valN hj
          have e2 := lngW_nonneg (unhide HG) hT2
          show _ < _
          rw [e1, unhide HME]; omega
        have HBF := hide (below_step (unhide HB2) (unhide HBS))
        clear hT1 hT2 hT3 hT4
        by_cases hil : (i : Int) < (n : Int)
        all_goals
          go_wp2
          exact ⟨⟨T, unhide HF1, unhide HF2, unhide HF3, unhide HBF⟩, unhide HM1⟩
      have HNO := hide hno
      clear hno
      by_cases hil : i < n
      · have e1 : (i : Int) < (n : Int) := by omega
        have e2 : IntKind.i64.wrap ((i : Int) + 1) = ((i + 1 : Nat) : Int) := by rw [IntKind.wrap_i64]; omega
        go_wp2_with fail
        go_loopw [8, 5, 6, 9, 10] (fun v8 v5 v6 _ _ wt => ∃ k : Nat, v8 = .int .i64 (k : Int) ∧ i < k ∧ k ≤ n ∧ Below wq.heap.size wq wt ∧ ((v6 = .bool false ∧ v5 = .slice a5 n c5 ∧ ∀ y, i < y → y < k → sB R V' n i y = false) ∨ (v6 = .bool true ∧ Fnd R n V V' wt v5))) (fun v8 _ _ _ _ _ => n - (intOf v8).toNat)
        case atStart => exact ⟨i + 1, rfl, Nat.lt_succ_self _, hil, unhide HBS, Or.inl ⟨rfl, rfl, fun y h1 h2 => by omega⟩⟩
        case round =>
          obtain ⟨k, rfl, hik, hkn, hbt, hcase⟩ := hrel
          obtain ⟨wt, hwt⟩ : ∃ W, W = wr := ⟨_, rfl⟩
          rw [← hwt] at hbt hcase ⊢
          have HBT := hide hbt
          rcases hcase with ⟨rfl, rfl, hnk⟩ | ⟨rfl, hf⟩
          case inr =>
            obtain ⟨T, ⟨a9, c9, rfl, hI9⟩, hT2, hT3, hT4⟩ := hf
            have q7 := hI9.1
            have q8 := hI9.2.1
            have HF : Hid (Fnd R n V V' wt (.slice a9 n c9)) := ⟨T, ⟨a9, c9, rfl, hI9⟩, hT2, hT3, hT4⟩
            clear hI9 hT2 hT3 hT4 hbt hwt
            by_cases hkl : (k : Int) < (n : Int)
            all_goals
              go_wp2
              exact ⟨⟨i + 1, rfl, by omega, Or.inl hil, unhide HBT, Or.inr ⟨rfl, unhide HF⟩⟩, by simp [intOf]; omega⟩
          have HNK := hide hnk
          by_cases hkl : k < n
          · have f1 : (k : Int) < (n : Int) := by omega
            have f2 : IntKind.i64.wrap ((k : Int) + 1) = ((k + 1 : Nat) : Int) := by rw [IntKind.wrap_i64]; omega
            have hIt := (unhide HI5).below hbt
            obtain ⟨b, o, rfl, hbl, hcc⟩ := hIt.2.2 (by omega)
            have hpart := hIt.part (lo := 0) (l := i) (d := c5) (by omega) (by omega) q6
            obtain ⟨v2, w2, h2, O2, G2⟩ := OwnL.app (OwnL.start wt wt.heap.size) hpart (by simp; omega) (Nat.le_refl _) 31
            have B2 := OwnL.grow (OwnL.start wt wt.heap.size) (Below.refl wt.heap.size wt) (Nat.le_refl _) (Below.refl _ _) G2
            have O2' : OwnL w2 wt.heap.size v2 (fstI (turnV V' i k) i) := by
              have e : ([] : List Int) ++ fstI (fun j => V' (0 + j)) i = fstI (turnV V' i k) i := by
                rw [List.nil_append]
                exact fstI_congr fun j hj => by rw [turnV_out (by omega), Nat.zero_add]
              rw [← e]; exact O2
            have HOU := hide O2'
            have HBU := hide B2
            have HIT := hide hIt
            have HCC := hide hcc
            have g1 : (0 : Int) ≤ (i : Int) := by omega
            have g2 : i ≤ c5 := by omega
            simp only [Nat.add_zero] at h2
            clear hnk hbt hwt hIt hcc hpart O2 O2' G2 B2
            go_wp2_with (at_builtin; go_loud (refine Go.Lib.wpList_append_run _ rfl _ _ 31 31 rfl _ _ rfl rfl _ _ h2 ?_))
            clear h2
            go_loopw [10, 9] (fun v10 v9 wv => ∃ m : Nat, v10 = .int .i64 ((i : Int) + (k : Int) - (m : Int)) ∧ i ≤ m ∧ m ≤ k + 1 ∧ OwnL wv wt.heap.size v9 (fstI (turnV V' i k) m) ∧ Below wt.heap.size wt wv) (fun v10 _ _ => (intOf v10 + 1 - (i : Int)).toNat)
            case atStart => exact ⟨i, by congr 1; omega, Nat.le_refl _, by omega, unhide HOU, unhide HBU⟩
            case round =>
              obtain ⟨m, rfl, him, hmk, hOv, hbv⟩ := hrel
              obtain ⟨wv, hwv⟩ : ∃ W, W = wr := ⟨_, rfl⟩
              rw [← hwv] at hOv hbv ⊢
              have HOV := hide hOv
              have HBV := hide hbv
              by_cases hml : m ≤ k
              · obtain ⟨j, hj⟩ : ∃ j : Nat, (i : Int) + (k : Int) - (m : Int) = (j : Int) := ⟨i + k - m, by omega⟩
                rw [hj]
                have k0 := unhide HCC j (by omega)
                rw [← hbv.cell (p := ⟨b, o + j, none⟩) hbl] at k0
                have hTm : V' j = turnV V' i k m := by rw [turnV_in him hml]; congr 1; omega
                obtain ⟨X, hX⟩ : ∃ X, V' j = X := ⟨_, rfl⟩
                rw [hX] at k0 hTm
                have d1 : (i : Int) ≤ (j : Int) := by omega
                have d2 : (0 : Int) ≤ (j : Int) := by omega
                have d3 : (j : Int) < (n : Int) := by omega
                have d4 : IntKind.i64.wrap ((j : Int) - 1) = (i : Int) + (k : Int) - ((m + 1 : Nat) : Int) := by rw [IntKind.wrap_i64]; omega
                have O4 := hOv.keep (alloc_below wv (.cells #[.int .i64 X] 3))
                have HO4 := hide O4
                have QLE := fstI_length (turnV V' i k) m
                have Q63 : Hid ((fstI (turnV V' i k) m).length + 1 ≤ maxLen) := by show _ ≤ _; unfold maxLen; omega
                have Q8 : Hid (((fstI (turnV V' i k) m).length + 1) * 8 ≤ 140737488355328) := by show _ ≤ _; omega
                have QB : Hid (wt.heap.size ≤ (wv.alloc (.cells #[.int .i64 X] 3)).heap.size) := Nat.le_trans hbv.size (alloc_below wv _).size
                have HS2 : Hid (fstI (turnV V' i k) (m + 1) = fstI (turnV V' i k) m ++ [X]) := by show _ = _; rw [fstI_succ, hTm]
                have HMS : Hid ((intOf (.int .i64 ((i : Int) + (k : Int) - ((m + 1 : Nat) : Int))) + 1 - (i : Int)).toNat < (intOf (.int .i64 (j : Int)) + 1 - (i : Int)).toNat) := by
                  show _ < _
                  simp only [intOf]; omega
                clear hOv hbv hwv O4 QLE hX hTm
                go_wp2_with (at_builtin; go_loud (refine wpList_append_lies _ rfl _ _ _ rfl wt.heap.size 3 ti (.int .i64 0) 1 8 Tryd.underlying31 (unhide HI) (unhide HZ) hz1 hz2 rfl (by decide) _ (fstI (turnV V' i k) m).length ((fstI (turnV V' i k) m).map (Value.int .i64 ·)) rfl (unhide HO4) ⟨wv.heap.size, 0, none⟩ 1 1 [.int .i64 X] rfl rfl (news_int wv X _) (one_int _) (by decide) (unhide Q63) (unhide Q8) (unhide QB) (wv.heap.size + 1) (alloc_size _ _) ?_; intro g8 cap8 w8 own8 grow8 hat8 hlt8; have HO8 := hide (OwnL.push own8); have HB8 := hide (OwnL.grow (unhide HOV) (unhide HBV) (Nat.le_refl _) (alloc_below wv _) grow8); clear own8 grow8 hat8 hlt8))
                exact ⟨⟨m + 1, rfl, by omega, by omega, by rw [unhide HS2]; exact unhide HO8, unhide HB8⟩, unhide HMS⟩
              · obtain rfl : m = k + 1 := by omega
                have d1 : ¬ (i : Int) ≤ (i : Int) + (k : Int) - ((k + 1 : Nat) : Int) := by omega
                clear hOv hbv hwv
                have f4 : (0 : Int) ≤ (k : Int) + 1 := by omega
                have hIv := (unhide HIT).below (unhide HBV)
                have HTW : Hid (∃ (v8 : Value) (w8 : World) (ad : Addr) (l d : Nat), (k + 1 = c5 → ad = ⟨b, o, none⟩) ∧ (k + 1 ≠ c5 → ad = ⟨b, o + (k + 1), none⟩) ∧ l = n - (k + 1) ∧ d = c5 - (k + 1) ∧ (Builtin.append_ #[31, 31] 31 #[u9, .slice (some ad) l d]).run Tryd.prog wv = .ok v8 w8 ∧ OwnL w8 wt.heap.size v8 (fstI (turnV V' i k) n) ∧ Below wt.heap.size wt w8) := by
                  obtain ⟨ad, had1, had2⟩ : ∃ ad : Addr, (k + 1 = c5 → ad = ⟨b, o, none⟩) ∧ (k + 1 ≠ c5 → ad = ⟨b, o + (k + 1), none⟩) := by
                    by_cases cc : k + 1 = c5
                    · exact ⟨_, fun _ => rfl, fun h => absurd cc h⟩
                    · exact ⟨_, fun h => absurd h cc, fun _ => rfl⟩
                  have hp : IRow wv (some ad) (n - (k + 1)) (c5 - (k + 1)) (fun j => V' (k + 1 + j)) := by
                    by_cases cc : k + 1 = c5
                    · exact ⟨by omega, by omega, fun h => by omega⟩
                    · rw [had2 cc]
                      exact hIv.part (lo := k + 1) (by omega) (by omega) (by omega)
                  obtain ⟨v8, w8, h8, O8, G8⟩ := OwnL.app (unhide HOV) hp (by rw [fstI_length]; omega) (unhide HBV).size 31
                  have B8 := OwnL.grow (unhide HOV) (unhide HBV) (Nat.le_refl _) (Below.refl _ _) G8
                  have hcat : fstI (turnV V' i k) (k + 1) ++ fstI (fun j => V' (k + 1 + j)) (n - (k + 1)) = fstI (turnV V' i k) n := by
                    have := fstI_add (turnV V' i k) (k + 1) (n - (k + 1))
                    rw [show k + 1 + (n - (k + 1)) = n by omega] at this
                    rw [this]
                    congr 1
                    exact fstI_congr fun j _ => (turnV_out (by omega)).symm
                  rw [hcat] at O8
                  exact ⟨v8, w8, ad, _, _, had1, had2, rfl, rfl, h8, O8, B8⟩
                have f5 : IntKind.i64.wrap ((k : Int) + 1) = ((k + 1 : Nat) : Int) := f2
                have f6 : k + 1 ≤ n := hkl
                obtain ⟨v8, w8, ad, l, d, ha1, ha2, rfl, rfl, h8, O8, B8⟩ := unhide HTW
                have HL1 : Hid (∀ W, Below w.heap.size w W → ∀ au cu T, RngV n n T → IRow W au n cu T → Calls Tryd.prog 31 #[.slice a n c, .slice au n cu] W fun e w' => e = .returned (.int .i64 (lngW R T n)) ∧ Below W.heap.size W w') := fun W hW au cu T h1 h2 => rLong_any a n c H R au n cu T W ((unhide HR).below hW) h2 (unhide HG) h1 (by omega)
                have HBW : Hid (Below w.heap.size w w8) := below_step (unhide HB2) (below_step (unhide HBT) B8)
                have HB8 := hide B8
                have HRT : Hid (RngV n n (turnV V' i k)) := (unhide HRG2).turn (by omega) hkl
                obtain ⟨au, cu, hv8, hIu⟩ := O8.sl
                have HIU := hide hIu
                have q9 := hIu.1
                have q10 := hIu.2.1
                have HI8 := hide ((unhide HIT).below B8)
                clear HTW O8 B8 hIu hIv
                by_cases cc : k + 1 = c5
                · obtain rfl := ha1 cc
                  subst hv8
                  have z : c5 - (k + 1) = 0 := by omega
                  rw [z] at h8
                  clear cc ha1 ha2
                  go_wp2_with (at_builtin; go_loud (refine Go.Lib.wpList_append_run _ rfl _ _ 31 31 rfl _ _ rfl rfl _ _ h8 ?_))
                  clear h8
                  refine (unhide HL1 w8 (unhide HBW) au cu _ (unhide HRT) (unhide HIU)).mono ?_
                  rintro e w9 ⟨rfl, hb9⟩
                  have HI9 := hide ((unhide HI8).below hb9)
                  have HU9 := hide ((unhide HIU).below hb9)
                  have HB9 := hide (below_step (unhide HBW) hb9)
                  have HT9 := hide (below_step (unhide HB8) hb9)
                  have HL2 := hide (unhide HL1 w9 (unhide HB9) _ _ _ (unhide HRG2) (unhide HI9))
                  clear hb9
                  go_wp2_with fail
                  refine (unhide HL2).mono ?_
                  rintro e w10 ⟨rfl, hb10⟩
                  have HT10 := hide (below_step (unhide HBT) (below_step (unhide HT9) hb10))
                  have HU10 := hide ((unhide HU9).below hb10)
                  clear hb10
                  by_cases lt : lngW R (turnV V' i k) n < lngW R V' n
                  · have HFD : Hid (Fnd R n V V' w10 (.slice au n cu)) := ⟨_, ⟨au, cu, rfl, unhide HU10⟩, unhide HRT, fun U hU => unhide HEND U (EndB.step ⟨hi1, hik, hkl, decide_eq_true lt, fun x y h1 h2 h3 h4 => by
                      rcases h4 with h4 | ⟨h4, h5⟩
                      · exact unhide HNO x y h4 h1 h2 h3
                      · rw [h4] at h2 ⊢; exact unhide HNK y h2 h5⟩ hU), lt⟩
                    go_wp2
                    exact ⟨⟨k + 1, rfl, by omega, hkl, unhide HT10, Or.inr ⟨rfl, unhide HFD⟩⟩, by simp [intOf]; omega⟩
                  · have HNK2 : Hid (∀ y, i < y → y < k + 1 → sB R V' n i y = false) := fun y h1 h2 => by
                      by_cases cy : y = k
                      · rw [cy]; exact decide_eq_false lt
                      · exact unhide HNK y h1 (by omega)
                    go_wp2
                    exact ⟨⟨k + 1, rfl, by omega, hkl, unhide HT10, Or.inl ⟨rfl, rfl, unhide HNK2⟩⟩, by simp [intOf]; omega⟩
                · obtain rfl := ha2 cc
                  subst hv8
                  have z : ¬ c5 - (k + 1) = 0 := by omega
                  have z2 : k + 1 < c5 := by omega
                  clear cc ha1 ha2
                  go_wp2_with (at_builtin; go_loud (refine Go.Lib.wpList_append_run _ rfl _ _ 31 31 rfl _ _ rfl rfl _ _ h8 ?_))
                  clear h8
                  refine (unhide HL1 w8 (unhide HBW) au cu _ (unhide HRT) (unhide HIU)).mono ?_
                  rintro e w9 ⟨rfl, hb9⟩
                  have HI9 := hide ((unhide HI8).below hb9)
                  have HU9 := hide ((unhide HIU).below hb9)
                  have HB9 := hide (below_step (unhide HBW) hb9)
                  have HT9 := hide (below_step (unhide HB8) hb9)
                  have HL2 := hide (unhide HL1 w9 (unhide HB9) _ _ _ (unhide HRG2) (unhide HI9))
                  clear hb9
                  go_wp2_with fail
                  refine (unhide HL2).mono ?_
                  rintro e w10 ⟨rfl, hb10⟩
                  have HT10 := hide (below_step (unhide HBT) (below_step (unhide HT9) hb10))
                  have HU10 := hide ((unhide HU9).below hb10)
                  clear hb10
                  by_cases lt : lngW R (turnV V' i k) n < lngW R V' n
                  · have HFD : Hid (Fnd R n V V' w10 (.slice au n cu)) := ⟨_, ⟨au, cu, rfl, unhide HU10⟩, unhide HRT, fun U hU => unhide HEND U (EndB.step ⟨hi1, hik, hkl, decide_eq_true lt, fun x y h1 h2 h3 h4 => by
                      rcases h4 with h4 | ⟨h4, h5⟩
                      · exact unhide HNO x y h4 h1 h2 h3
                      · rw [h4] at h2 ⊢; exact unhide HNK y h2 h5⟩ hU), lt⟩
                    go_wp2
                    exact ⟨⟨k + 1, rfl, by omega, hkl, unhide HT10, Or.inr ⟨rfl, unhide HFD⟩⟩, by simp [intOf]; omega⟩
                  · have HNK2 : Hid (∀ y, i < y → y < k + 1 → sB R V' n i y = false) := fun y h1 h2 => by
                      by_cases cy : y = k
                      · rw [cy]; exact decide_eq_false lt
                      · exact unhide HNK y h1 (by omega)
                    go_wp2
                    exact ⟨⟨k + 1, rfl, by omega, hkl, unhide HT10, Or.inl ⟨rfl, rfl, unhide HNK2⟩⟩, by simp [intOf]; omega⟩
          · obtain rfl : k = n := by omega
            have f1 : ¬ (k : Int) < (k : Int) := by omega
            have HNO2 : Hid (∀ x y, x < i + 1 → 1 ≤ x → x < y → y < k → sB R V' k x y = false) := fun x y h1 h2 h3 h4 => by
              by_cases cx : x = i
              · rw [cx] at h3 ⊢; exact unhide HNK y h3 h4
              · exact unhide HNO x y (by omega) h2 h3 h4
            clear hnk hbt hwt
            go_wp2
            exact ⟨⟨i + 1, rfl, by omega, Or.inl hil, unhide HBT, Or.inl ⟨rfl, rfl, unhide HNO2⟩⟩, by simp [intOf]; omega⟩
      · have e1 : ¬ (i : Int) < (n : Int) := by omega
        have HRST : Hid (RestB R n V') := fun x y h1 h2 h3 => unhide HNO x y (by omega) h1 h2 h3
        have HFB := hide (below_step (unhide HB2) (unhide HBS))
        have HFS : Hid (SlI ws (.slice a5 n c5) n V') := ⟨a5, c5, rfl, (unhide HI5).below (unhide HBS)⟩
        go_wp2
        go_ret
        exact ⟨_, V', rfl, unhide HFS, unhide HEND V' (EndB.rest (unhide HRST)), unhide HFB⟩
end Go.Proofs.YtcmddkekidgkoaaDoor
