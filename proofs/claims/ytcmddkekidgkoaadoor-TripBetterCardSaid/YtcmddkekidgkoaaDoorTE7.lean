/- Trees of the program: Branches. -/
import Derived.Test.YtcmddkekidgkoaaDoorTE5
import Derived.Test.YtcmddkekidgkoaaDoorTE6
namespace Go.Proofs.YtcmddkekidgkoaaDoor
open Go.RowKit Go.Sort Go.Shelf

/-- A box of two cells is kept. -/
theorem box2 {w w2 : World} {x y : Value} {T : TypeId} (h : Below (w.alloc (.cells #[x, y] T)).heap.size (w.alloc (.cells #[x, y] T)) w2) :
    w2.cell? ⟨w.heap.size, 0, none⟩ = some x ∧ w2.cell? ⟨w.heap.size, 1, none⟩ = some y := by
  have hs := alloc_size w (.cells #[x, y] T)
  rw [h.cell (p := ⟨w.heap.size, 0, none⟩) (by show w.heap.size < _; omega), h.cell (p := ⟨w.heap.size, 1, none⟩) (by show w.heap.size < _; omega)]
  simp only [World.cell?, heap_alloc_new]
  exact ⟨rfl, rfl⟩
/-- A row of ints of the call's own. -/
def OwnL (w : World) (B : Nat) (v : Value) (xs : List Int) : Prop := w.ownsRow B 3 1 v xs.length (xs.map (.int .i64 ·))
theorem OwnL.keep {w w' : World} {B : Nat} {v : Value} {xs : List Int} (h : OwnL w B v xs) (hb : Below w.heap.size w w') : OwnL w' B v xs := by
  refine ⟨h.1, ?_⟩
  rcases h.2 with h | ⟨g, cap, cur, hv, hg, hh, h1⟩
  · exact Or.inl h
  · exact Or.inr ⟨g, cap, cur, hv, hg, by rw [hb.block g (Array.getElem?_eq_some_iff.1 hh).1]; exact hh, h1⟩
theorem OwnL.start (w : World) (B : Nat) : OwnL w B (.slice none 0 0) [] := World.ownsRow_nil _ _ _ _
theorem OwnL.row {w : World} {B : Nat} {v : Value} {xs : List Int} (h : OwnL w B v xs) : ∀ k, v.ownBlock = some k → B ≤ k := by
  intro k hk
  obtain ⟨h1, ⟨rfl, h2⟩ | ⟨g, cap, cur, rfl, hb, _⟩⟩ := h
  · cases hk
  · obtain rfl : g = k := Option.some.inj hk
    exact hb
theorem OwnL.irow {w : World} {B : Nat} {v : Value} {xs : List Int} (h : OwnL w B v xs) : ∃ a c, v = .slice a xs.length c ∧ IRow w a xs.length c (fun j => xs[j]!) := by
  rcases h.2 with ⟨rfl, h0⟩ | ⟨g, cap, cur, rfl, hb, hg, h1, h2, h3, h4⟩
  · exact ⟨none, 0, by rw [h0], ⟨by omega, by decide, fun h => by omega⟩⟩
  · refine ⟨_, cap, rfl, ⟨h1, by unfold maxLen at h2; exact h2, fun _ => ⟨g, 0, rfl, (Array.getElem?_eq_some_iff.1 hg).1, fun j hj => ?_⟩⟩⟩
    have e1 : (xs.map (Value.int .i64 ·))[j]? = cur[j]? := by
      rw [← h4, List.getElem?_take_of_lt (by omega)]
      simp
    simp only [World.cell?, hg, Nat.zero_add]
    rw [← e1]
    simp [hj]
/-- A row with one more. -/
theorem OwnL.push {w' : World} {B g cap : Nat} {xs : List Int} {x : Int} (own : w'.ownsRow B 3 1 (.slice (some ⟨g, 0, none⟩) (xs.length + 1) cap) (xs.length + 1) (xs.map (Value.int .i64 ·) ++ [.int .i64 x])) : OwnL w' B (.slice (some ⟨g, 0, none⟩) (xs.length + 1) cap) (xs ++ [x]) := by
  unfold OwnL
  rw [List.map_append, List.length_append]
  exact own
theorem OwnL.grow {w wr w' : World} {B : Nat} {v : Value} {xs : List Int} (h : OwnL wr B v xs) (hb : Below w.heap.size w wr) (hB : w.heap.size ≤ B) {W : World} (hW : Below wr.heap.size wr W) (hg : W.grownBy w' v.ownBlock) : Below w.heap.size w w' :=
  Below.grown (below_step hb hW) hg (Nat.le_trans hb.size hW.size) (fun k hk => Nat.le_trans hB (h.row k hk))

/-- Place j of a row without number k. -/
def sk (k j : Nat) : Nat := if j < k then j else j + 1
def fr (f : Nat → T3) (k : Nat) : Nat → T3 := fun j => f (sk k j)
theorem firsts_rest (f : Nat → T3) {k m : Nat} (hk : k < m) : firsts f k ++ firsts (fun j => f (k + 1 + j)) (m - (k + 1)) = firsts (fr f k) (m - 1) := by
  apply List.ext_getElem?
  intro j
  unfold firsts fr sk
  by_cases hj : j < m - 1
  · by_cases c : j < k
    · rw [List.getElem?_append_left (by simpa using c)]
      simp [c, hj]
    · rw [List.getElem?_append_right (by simp; omega)]
      simp [c, hj, show j - k < m - (k + 1) by omega, show k + 1 + (j - k) = j + 1 by omega]
  · rw [List.getElem?_eq_none (by simp; omega), List.getElem?_eq_none (by simp; omega)]
theorem sk_lt {k m j : Nat} (h : j < m - 1) : sk k j < m ∧ sk k j ≠ k := by unfold sk; split <;> omega
theorem GoodE.rest {n m k : Nat} {f : Nat → T3} (H : GoodE n m f) : GoodE n (m - 1) (fr f k) :=
  ⟨fun _ hi => H.a _ (sk_lt hi).1, fun _ hi => H.b _ (sk_lt hi).1, fun _ hi => H.l _ (sk_lt hi).1⟩
theorem run_rest {m k p : Nat} {f : Nat → T3} {out : Nat → Int} (h : Tre.Run (m - 1) (eA (fr f k)) (eB (fr f k)) (eL (fr f k)) allE p out) : Tre.Run m (eA f) (eB f) (eL f) (fun i => i ≠ k) p out := by
  refine Tre.Run.ind (P := fun out => Tre.Run m (eA f) (eB f) (eL f) (fun i => i ≠ k) p out) h (Tre.Run.start _ _ _ _ _ _) (fun o i h x _ hp hi _ hinc hh hx => ?_)
  exact Tre.Run.step (i := sk k i) hp (sk_lt hi).1 (sk_lt hi).2 hinc hh hx
theorem ended_rest {m k : Nat} {f : Nat → T3} {out : Nat → Int} (hk : k < m) (h : Tre.Ended (m - 1) (eA (fr f k)) (eB (fr f k)) allE out) : Tre.Ended m (eA f) (eB f) (fun i => i ≠ k) out := fun i hi hne => by
  by_cases c : i < k
  · have := h i (by omega) trivial
    unfold eA eB fr sk at this
    rw [if_pos c] at this
    exact this
  · have := h (i - 1) (by omega) trivial
    unfold eA eB fr sk at this
    rw [if_neg (by omega), show i - 1 + 1 = i by omega] at this
    exact this
theorem jnd_ps {n m k p x : Nat} {f : Nat → T3} {s : Nat → Nat → Bool} {P out : Nat → Int} (H : GTree n m f s) (hk : k < m) (hinc : Tre.Inc (eA f) (eB f) k p x)
    (hr : Tre.Run (m - 1) (eA (fr f k)) (eB (fr f k)) (eL (fr f k)) allE x out) (he : Tre.Ended (m - 1) (eA (fr f k)) (eB (fr f k)) allE out) : jnd out P n = Tre.Ps n s P k p := by
  have hl := H.tr.inc_lt hk hinc
  have hs := Tre.search_side H.tr hl.2 hk (run_rest hr) (ended_rest hk he)
  have hne := H.tr.inc_ne hk hinc
  unfold jnd Tre.Ps
  refine Tre.sm_congr n (fun v hv => ?_)
  show (if out v = -1 then 0 else P v) = (if s k v = s k p then 0 else P v)
  by_cases c : out v = -1
  · rw [if_pos c, if_pos]
    have h1 : ¬ s k v = s k x := fun e => (hs v hv).2 e c
    exact Tre.bne h1 (fun e => hne e.symm)
  · rw [if_neg c, if_neg]
    intro e
    exact hne (((hs v hv).1 c).symm.trans e)
/-- The branches at a place. -/
def brs (n : Nat) (f : Nat → T3) (s : Nat → Nat → Bool) (P : Nat → Int) (p : Nat) : Nat → List Int
  | 0 => []
  | k + 1 => if (oth (f k) (p : Int)).2 then brs n f s P p k ++ [Tre.Ps n s P k p] else brs n f s P p k
theorem brs_len (n : Nat) (f : Nat → T3) (s : Nat → Nat → Bool) (P : Nat → Int) (p : Nat) : ∀ k, (brs n f s P p k).length ≤ k
  | 0 => Nat.le_refl _
  | k + 1 => by
    have := brs_len n f s P p k
    show (if (oth (f k) (p : Int)).2 then brs n f s P p k ++ [Tre.Ps n s P k p] else brs n f s P p k).length ≤ k + 1
    split
    · rw [List.length_append]; show _ + 1 ≤ k + 1; omega
    · omega
def BraE (w : World) (k : Int) (l : List Int) (e : Ending) (w' : World) : Prop := Below w.heap.size w w' ∧ ((k ≠ 0 ∧ e = .returned (.tuple #[.slice none 0 0, .iface 25 (.int .i64 k)])) ∨ (k = 0 ∧ ∃ v, e = .returned (.tuple #[v, .nilIface]) ∧ OwnL w' w.heap.size v l))

set_option maxHeartbeats 16000000 in
set_option maxRecDepth 100000 in
set_option linter.unusedSimpArgs false in
theorem Branches_any (N : Int) (a : Option Addr) (m c : Nat) (f : Nat → T3) (pa : Option Addr) (pn pc : Nat) (P : Nat → Int) (at_ : Int) (cu : Bool) (s : Nat → Nat → Bool) (w : World) (hN : I64 N) (hcu : Cu N.toNat m f cu) (hs : Cuts N m f cu s) (ha : TRow w a m c f) (hp : IRow w pa pn pc P) (hpn : pn ≤ 1000) :
    Calls Tryd.prog 23 #[.int .i64 N, .slice a m c, .slice pa pn pc, .int .i64 at_] w (BraE w (acode N m f cu pn P at_) (brs N.toNat f s P at_.toNat m)) := by
  have HC := hide (peopleAt_any N a m c f pa pn pc P at_ cu w hN hcu ha hp hpn)
  by_cases hk : acode N m f cu pn P at_ = 0
  case neg =>
    rw [errV_not hk] at HC
    obtain ⟨k, hk2⟩ : ∃ k, acode N m f cu pn P at_ = k := ⟨_, rfl⟩
    rw [hk2] at HC hk ⊢
    have HK := hide hk
    clear hk hk2 hcu ha hp hs
    go_enter Tryd.func23, Tryd.ntmps23
    go_wp2_with fail
    refine (unhide HC).mono ?_
    rintro e w1 ⟨rfl, hb1⟩
    go_wp2
    go_ret2
    exact ⟨hb1, Or.inl ⟨unhide HK, rfl⟩⟩
  have HK := hide hk
  rw [hk, errV_zero] at HC
  obtain ⟨h1, h2, h3⟩ := acode_zero hk
  obtain ⟨h4, h5, h6⟩ := pcode_zero h1
  have hT := hs h4
  obtain ⟨n, rfl⟩ : ∃ n : Nat, N = (n : Int) := ⟨N.toNat, by omega⟩
  obtain ⟨p, rfl⟩ : ∃ p : Nat, at_ = (p : Int) := ⟨at_.toNat, by omega⟩
  obtain rfl : pn = n := by omega
  have HT : Hid (GTree pn m f s) := hT
  have HG := hide h6
  have HA := hide ha
  have HP := hide hp
  have hpl : p < pn := by omega
  have h60 : pn ≤ 60 := (unhide HT).few
  have h01 : 1 ≤ pn := (unhide HT).one
  have hmn : m + 1 = pn := (unhide HT).mn
  have HMN := hide hmn
  have hm60 : m ≤ 59 := by omega
  have HFIN : Hid (∀ e W, BraE w 0 (brs pn f s P p m) e W → BraE w (acode (pn : Int) m f cu pn P (p : Int)) (brs ((pn : Nat) : Int).toNat f s P ((p : Nat) : Int).toNat m) e W) := fun e W h => by rw [unhide HK]; exact h
  obtain ⟨ti, hti, hz0, hz1, hz2⟩ := info_parts Tryd.infoI
  have HI := hide hti
  have HZ := hide hz0
  have q1 := ha.1
  have q2 := ha.2.1
  clear h1 h2 h3 h4 h5 h6 hT hcu ha hp hs hk hmn hti hz0
  go_enter Tryd.func23, Tryd.ntmps23
  go_wp2_with fail
  refine (unhide HC).mono ?_
  rintro e w1 ⟨rfl, hb1⟩
  have HB := hide hb1
  clear hb1 HC
  go_wp2_with fail
  go_loopw [27, 11] (fun vi vo wr => ∃ i : Nat, vi = .int .i64 (i : Int) ∧ i ≤ m ∧ OwnL wr w.heap.size vo (brs pn f s P p i) ∧ Below w.heap.size w wr) (fun vi _ _ => m - (intOf vi).toNat)
  case atStart => exact ⟨0, rfl, Nat.zero_le _, OwnL.start _ _, unhide HB⟩
  case round =>
    obtain ⟨i, rfl, hi, hO, hb⟩ := hrel
    clear HB
    by_cases hlt : i < m
    · obtain ⟨b, oo, rfl, hbl, hc3⟩ := ((unhide HA).below hb).2.2 (by omega)
      have ⟨k0, k1, k2⟩ := hc3 i hlt
      obtain ⟨t, ht⟩ : ∃ t, f i = t := ⟨_, rfl⟩
      rw [ht] at k0 k1 k2
      have e3 : (0 : Int) ≤ (i : Int) := by omega
      have e4 : (i : Int) < (m : Int) := by omega
      have e7 : IntKind.i64.wrap ((i : Int) + 1) = ((i + 1 : Nat) : Int) := by rw [IntKind.wrap_i64]; omega
      have ⟨x0, x1, x2⟩ := box3 (w := wr) (x := .int .i64 t.1) (y := .int .i64 t.2.1) (z := .int .i64 t.2.2) (T := 81) (Below.refl _ _)
      have ba := alloc_below wr (.cells #[.int .i64 t.1, .int .i64 t.2.1, .int .i64 t.2.2] 81)
      have C1 := hide (across_any t (p : Int) (wr.alloc (.cells #[.int .i64 t.1, .int .i64 t.2.1, .int .i64 t.2.2] 81)))
      obtain ⟨W1, hW1⟩ : ∃ W, wr.alloc (.cells #[.int .i64 t.1, .int .i64 t.2.1, .int .i64 t.2.2] 81) = W := ⟨_, rfl⟩
      rw [hW1] at ba x0 x1 x2 C1
      have HO := hide (hO.keep ba)
      have HB := hide (below_step hb ba)
      have HHT := hide ht
      clear hO hb ht hc3 ba
      go_wp2_with fail
      clear k0 k1 k2 x0 x1 x2 hW1
      refine (unhide C1).mono ?_
      rintro e w2 ⟨rfl, hb2⟩
      have HO2 := hide ((unhide HO).keep hb2)
      have HB2 := hide (below_step (unhide HB) hb2)
      clear C1 HO HB hb2
      have hcase := oth_inc (unhide HT).good hlt hpl
      rw [unhide HHT] at hcase
      have HBS : Hid (brs pn f s P p (i + 1) = if (oth t (p : Int)).2 then brs pn f s P p i ++ [Tre.Ps pn s P i p] else brs pn f s P p i) := by show _ = _; rw [← unhide HHT]; rfl
      rcases hcase with ⟨x, hxn, hox, hinc, _⟩ | ⟨hox, hno⟩
      · rw [hox] at HBS ⊢
        have HIN := hide hinc
        have HXN := hide hxn
        have HTR : Hid (∀ W : World, Below w2.heap.size w2 W → (fun _ : World => True) W) := fun _ _ => trivial
        have g1 : (i : Int) ≤ (c : Int) := by omega
        have g2 : ((i + 1 : Nat) : Int) ≤ (m : Int) := by omega
        have g3 : (0 : Int) ≤ ((i + 1 : Nat) : Int) := by omega
        have g4 : (m : Int) ≤ (c : Int) := by omega
        have g5 : i ≤ c := by omega
        have HE7 := hide e7
        obtain ⟨i1, hi1⟩ : ∃ i1, i + 1 = i1 := ⟨_, rfl⟩
        rw [hi1] at e7 g2 g3
        have HI1 := hide hi1
        have g6 : i ≤ i1 := by omega
        clear hox hinc hxn hi1
        by_cases hcap : c = i1
        · obtain rfl : c = i1 := hcap
          have hmi : m = c := by omega
          have hmc : m - c = 0 := by omega
          have HMI := hide hmi
          clear hmi
          go_wp2_with fail
          refine wp_region_hold (fun _ : World => True) (by kernel_rfl) ?_
          have bd0 : Below w2.heap.size w2 w2.drew := (Below.refl _ _).drew
          have hC0 : (fun _ : World => True) w2.drew := unhide HTR _ bd0
          refine wpHold_take (i := 0) (v := ?_) rfl (by kernel_rfl) (by kernel_rfl) (by kernel_rfl) (fun _ _ _ h => h) (Or.inl ⟨by rfl, ?_⟩) hC0 ?_
          rotate_left
          · intro w hSw; clear hSw; go_simp; (try with_reducible rfl)
          (try simp only [List.getElem_toArray, List.getElem_cons_succ, List.getElem_cons_zero])
          (try simp only [Act.put, List.setIfInBounds_toArray, List.set_cons_zero, List.set_cons_succ])
          refine wpHold_take (i := 1) (v := ?_) rfl (by kernel_rfl) (by kernel_rfl) (by kernel_rfl) (fun _ _ _ h => h) (Or.inl ⟨by rfl, ?_⟩) hC0 ?_
          rotate_left
          · intro w hSw; clear hSw; go_simp; (try with_reducible rfl)
          (try simp only [List.getElem_toArray, List.getElem_cons_succ, List.getElem_cons_zero])
          (try simp only [Act.put, List.setIfInBounds_toArray, List.set_cons_zero, List.set_cons_succ])
          refine wpHold_take (i := 2) (v := ?_) rfl (by kernel_rfl) (by kernel_rfl) (by kernel_rfl) (fun _ _ _ h => h) (Or.inl ⟨by rfl, ?_⟩) hC0 ?_
          rotate_left
          · intro w hSw; clear hSw; go_simp; (try with_reducible rfl)
          (try simp only [List.getElem_toArray, List.getElem_cons_succ, List.getElem_cons_zero])
          (try simp only [Act.put, List.setIfInBounds_toArray, List.set_cons_zero, List.set_cons_succ])
          refine wpHold_take (i := 3) (v := ?_) rfl (by kernel_rfl) (by kernel_rfl) (by kernel_rfl) (fun _ _ _ h => h) (Or.inl ⟨by rfl, ?_⟩) hC0 ?_
          rotate_left
          · intro w hSw; clear hSw; go_simp; (try with_reducible rfl)
          (try simp only [List.getElem_toArray, List.getElem_cons_succ, List.getElem_cons_zero])
          (try simp only [Act.put, List.setIfInBounds_toArray, List.set_cons_zero, List.set_cons_succ])
          refine wpHold_take (i := 4) (v := ?_) rfl (by kernel_rfl) (by kernel_rfl) (by kernel_rfl) (fun _ _ _ h => h) (Or.inl ⟨by rfl, ?_⟩) hC0 ?_
          rotate_left
          · intro w hSw; clear hSw; go_simp; (try with_reducible rfl)
          (try simp only [List.getElem_toArray, List.getElem_cons_succ, List.getElem_cons_zero])
          (try simp only [Act.put, List.setIfInBounds_toArray, List.set_cons_zero, List.set_cons_succ])
          refine wpHold_take (i := 5) (v := ?_) rfl (by kernel_rfl) (by kernel_rfl) (by kernel_rfl) (fun _ _ _ h => h) (Or.inl ⟨by rfl, ?_⟩) hC0 ?_
          rotate_left
          · intro w hSw; clear hSw; go_simp; (try with_reducible rfl)
          (try simp only [List.getElem_toArray, List.getElem_cons_succ, List.getElem_cons_zero])
          (try simp only [Act.put, List.setIfInBounds_toArray, List.set_cons_zero, List.set_cons_succ])
          refine wpHold_take (i := 6) (v := ?_) rfl (by kernel_rfl) (by kernel_rfl) (by kernel_rfl) (fun _ _ _ h => h) (Or.inl ⟨by rfl, ?_⟩) hC0 ?_
          rotate_left
          · intro w hSw; clear hSw; go_simp; (try with_reducible rfl)
          (try simp only [List.getElem_toArray, List.getElem_cons_succ, List.getElem_cons_zero])
          (try simp only [Act.put, List.setIfInBounds_toArray, List.set_cons_zero, List.set_cons_succ])
          refine wpHold_one (k := 7) (by kernel_rfl) rfl (fun K hK => ?_)
          (try simp only [List.getElem_toArray, List.getElem_cons_succ, List.getElem_cons_zero])
          go_simp
          have Y5 := box2 (w := w2) (x := .slice (some ⟨b, oo, none⟩) i c) (y := .slice (some ⟨b, oo, none⟩) 0 0) (T := 22) (drew_below _)
          have B5 := below_step (alloc_below w2 (.cells #[.slice (some ⟨b, oo, none⟩) i c, .slice (some ⟨b, oo, none⟩) 0 0] 22)) (drew_below _)
          obtain ⟨b5, hb5⟩ : ∃ b, w2.heap.size = b := ⟨_, rfl⟩
          obtain ⟨W5, hW5⟩ : ∃ W, (w2.alloc (.cells #[.slice (some ⟨b, oo, none⟩) i c, .slice (some ⟨b, oo, none⟩) 0 0] 22)).drew = W := ⟨_, rfl⟩
          rw [hW5] at Y5 B5 ⊢
          rw [hb5] at Y5
          have hAW := (unhide HA).below (below_step (unhide HB2) B5)
          have hA1 : TRow W5 (some ⟨b, oo, none⟩) i c f := ⟨by omega, hAW.2.1, fun h => by obtain ⟨b', o', e, h1, h2⟩ := hAW.2.2 (by omega); exact ⟨b', o', e, h1, fun j hj => h2 j (by omega)⟩⟩
          have hA2 : TRow W5 (some ⟨b, oo, none⟩) 0 0 (fun j => f (i + 1 + j)) := ⟨Nat.le_refl _, by decide, fun h => absurd h (Nat.lt_irrefl _)⟩
          have HCAT := hide (concat_any b5 (some ⟨b, oo, none⟩) i c f (some ⟨b, oo, none⟩) 0 0 (fun j => f (i + 1 + j)) W5 Y5.1 Y5.2 hA1 hA2 (by omega))
          have HB5 := hide (below_step (unhide HB2) B5)
          have HO5 := hide ((unhide HO2).keep B5)
          have HRW : Hid (firsts f i ++ firsts (fun j => f (i + 1 + j)) (0) = firsts (fr f i) (m - 1)) := by
            show _ = _
            have e : m - (i + 1) = 0 := by have := unhide HI1; have := unhide HMI; omega
            rw [← firsts_rest f hlt, e]
          clear Y5 B5 hAW hA1 hA2 HO2 HB2
          refine hK.out _ _ trivial ?_
          clear hK K
          (try simp only [Act.put, List.setIfInBounds_toArray, List.set_cons_zero, List.set_cons_succ])
          refine wpHold_one (k := 8) (by kernel_rfl) rfl (fun K hK => ?_)
          (try simp only [List.getElem_toArray, List.getElem_cons_succ, List.getElem_cons_zero])
          go_simp
          refine (unhide HCAT).mono ?_
          rintro e w6 ⟨v6, rfl, hO6, hb6⟩
          rw [unhide HRW] at hO6
          obtain ⟨a6, c6, rfl, ht6⟩ := hO6.trow
          rw [firsts_length] at ht6 ⊢
          obtain ⟨mr, hmr⟩ : ∃ x, m - 1 = x := ⟨_, rfl⟩
          rw [hmr] at ht6 ⊢
          have HT6 : Hid (TRow w6 a6 mr c6 (fr f i)) := trow_congr ht6 (fun j hj => by rw [← hmr] at hj ⊢; exact firsts_get _ hj)
          have HB6 := hide (below_step (unhide HB5) hb6)
          have HO6 := hide ((unhide HO5).keep hb6)
          have q5 := ht6.1
          have q6 := ht6.2.1
          have HMR := hide hmr
          clear ht6 hO6 hb6 HB5 HO5 HCAT hmr
          refine hK.out _ _ trivial ?_
          clear hK K
          (try simp only [Act.put, List.setIfInBounds_toArray, List.set_cons_zero, List.set_cons_succ])
          refine wpHold_one (k := 9) (by kernel_rfl) rfl (fun K hK => ?_)
          (try simp only [List.getElem_toArray, List.getElem_cons_succ, List.getElem_cons_zero])
          go_simp
          refine hK.out _ _ trivial ?_
          clear hK K
          (try simp only [Act.put, List.setIfInBounds_toArray, List.set_cons_zero, List.set_cons_succ])
          refine wpHold_done (by kernel_rfl) ?_ _
          clear bd0 hC0 HTR hW5
          have HJ := hide (joined_any pn a6 mr c6 (fr f i) pa pc P x w6 (unhide HT6) ((unhide HP).below (unhide HB6)) h01 h60 (by have := unhide HMR; omega) (by have := (unhide HT).good.rest (k := i); rw [unhide HMR] at this; exact this) (unhide HG) (unhide HXN))
          go_wp2_with fail
          refine (unhide HJ).mono ?_
          rintro e w7 ⟨outj, rfl, hrun, hend, hb7⟩
          have HV : Hid (jnd outj P pn = Tre.Ps pn s P i p) := by
            have e := unhide HMR
            refine jnd_ps (unhide HT) hlt (unhide HIN) ?_ ?_
            · rw [e]; exact hrun
            · rw [e]; exact hend
          have HB7 := hide (below_step (unhide HB6) hb7)
          have HO7 := hide ((unhide HO6).keep hb7)
          obtain ⟨V, hV⟩ : ∃ V, jnd outj P pn = V := ⟨_, rfl⟩
          rw [hV] at HV ⊢
          have O4 := (unhide HO7).keep (alloc_below w7 (.cells #[.int .i64 V] 3))
          have HO4 := hide O4
          have QLE := brs_len pn f s P p i
          have Q63 : Hid ((brs pn f s P p i).length + 1 ≤ maxLen) := by show _ ≤ _; unfold maxLen; omega
          have Q8 : Hid (((brs pn f s P p i).length + 1) * 8 ≤ 140737488355328) := by show _ ≤ _; omega
          have QB : Hid (w.heap.size ≤ (w7.alloc (.cells #[.int .i64 V] 3)).heap.size) := Nat.le_trans (unhide HB7).size (alloc_below w7 _).size
          have HBS2 : Hid (brs pn f s P p (i + 1) = brs pn f s P p i ++ [V]) := by show _ = _; rw [unhide HBS, unhide HV]; rfl
          clear hrun hend hb7 hV HJ HB6 HO6 O4 QLE HBS HV
          go_wp2_with (at_builtin; go_loud (refine wpList_append_lies _ rfl _ _ _ rfl w.heap.size 3 ti (.int .i64 0) 1 8 Tryd.underlying31 (unhide HI) (unhide HZ) hz1 hz2 rfl (by decide) _ (brs pn f s P p i).length ((brs pn f s P p i).map (Value.int .i64 ·)) rfl (unhide HO4) ⟨w7.heap.size, 0, none⟩ 1 1 [.int .i64 V] rfl rfl (news_int w7 V _) (one_int _) (by decide) (unhide Q63) (unhide Q8) (unhide QB) (w7.heap.size + 1) (alloc_size _ _) ?_; intro g8 cap8 w8 own8 grow8 hat8 hlt8; have HO8 := hide (OwnL.push own8); have HB8 := hide (OwnL.grow (unhide HO7) (unhide HB7) (Nat.le_refl _) (alloc_below w7 _) grow8); clear own8 grow8 hat8 hlt8))
          exact ⟨⟨i + 1, by rw [unhide HI1], hlt, by rw [unhide HBS2]; exact unhide HO8, unhide HB8⟩, by have := unhide HI1; simp [intOf]; omega⟩
        · go_wp2_with fail
          refine wp_region_hold (fun _ : World => True) (by kernel_rfl) ?_
          have bd0 : Below w2.heap.size w2 w2.drew := (Below.refl _ _).drew
          have hC0 : (fun _ : World => True) w2.drew := unhide HTR _ bd0
          refine wpHold_take (i := 0) (v := ?_) rfl (by kernel_rfl) (by kernel_rfl) (by kernel_rfl) (fun _ _ _ h => h) (Or.inl ⟨by rfl, ?_⟩) hC0 ?_
          rotate_left
          · intro w hSw; clear hSw; go_simp; (try with_reducible rfl)
          (try simp only [List.getElem_toArray, List.getElem_cons_succ, List.getElem_cons_zero])
          (try simp only [Act.put, List.setIfInBounds_toArray, List.set_cons_zero, List.set_cons_succ])
          refine wpHold_take (i := 1) (v := ?_) rfl (by kernel_rfl) (by kernel_rfl) (by kernel_rfl) (fun _ _ _ h => h) (Or.inl ⟨by rfl, ?_⟩) hC0 ?_
          rotate_left
          · intro w hSw; clear hSw; go_simp; (try with_reducible rfl)
          (try simp only [List.getElem_toArray, List.getElem_cons_succ, List.getElem_cons_zero])
          (try simp only [Act.put, List.setIfInBounds_toArray, List.set_cons_zero, List.set_cons_succ])
          refine wpHold_take (i := 2) (v := ?_) rfl (by kernel_rfl) (by kernel_rfl) (by kernel_rfl) (fun _ _ _ h => h) (Or.inl ⟨by rfl, ?_⟩) hC0 ?_
          rotate_left
          · intro w hSw; clear hSw; go_simp; (try with_reducible rfl)
          (try simp only [List.getElem_toArray, List.getElem_cons_succ, List.getElem_cons_zero])
          (try simp only [Act.put, List.setIfInBounds_toArray, List.set_cons_zero, List.set_cons_succ])
          refine wpHold_take (i := 3) (v := ?_) rfl (by kernel_rfl) (by kernel_rfl) (by kernel_rfl) (fun _ _ _ h => h) (Or.inl ⟨by rfl, ?_⟩) hC0 ?_
          rotate_left
          · intro w hSw; clear hSw; go_simp; (try with_reducible rfl)
          (try simp only [List.getElem_toArray, List.getElem_cons_succ, List.getElem_cons_zero])
          (try simp only [Act.put, List.setIfInBounds_toArray, List.set_cons_zero, List.set_cons_succ])
          refine wpHold_take (i := 4) (v := ?_) rfl (by kernel_rfl) (by kernel_rfl) (by kernel_rfl) (fun _ _ _ h => h) (Or.inl ⟨by rfl, ?_⟩) hC0 ?_
          rotate_left
          · intro w hSw; clear hSw; go_simp; (try with_reducible rfl)
          (try simp only [List.getElem_toArray, List.getElem_cons_succ, List.getElem_cons_zero])
          (try simp only [Act.put, List.setIfInBounds_toArray, List.set_cons_zero, List.set_cons_succ])
          refine wpHold_take (i := 5) (v := ?_) rfl (by kernel_rfl) (by kernel_rfl) (by kernel_rfl) (fun _ _ _ h => h) (Or.inl ⟨by rfl, ?_⟩) hC0 ?_
          rotate_left
          · intro w hSw; clear hSw; go_simp; (try with_reducible rfl)
          (try simp only [List.getElem_toArray, List.getElem_cons_succ, List.getElem_cons_zero])
          (try simp only [Act.put, List.setIfInBounds_toArray, List.set_cons_zero, List.set_cons_succ])
          refine wpHold_take (i := 6) (v := ?_) rfl (by kernel_rfl) (by kernel_rfl) (by kernel_rfl) (fun _ _ _ h => h) (Or.inl ⟨by rfl, ?_⟩) hC0 ?_
          rotate_left
          · intro w hSw; clear hSw; go_simp; (try with_reducible rfl)
          (try simp only [List.getElem_toArray, List.getElem_cons_succ, List.getElem_cons_zero])
          (try simp only [Act.put, List.setIfInBounds_toArray, List.set_cons_zero, List.set_cons_succ])
          refine wpHold_one (k := 7) (by kernel_rfl) rfl (fun K hK => ?_)
          (try simp only [List.getElem_toArray, List.getElem_cons_succ, List.getElem_cons_zero])
          go_simp
          have Y5 := box2 (w := w2) (x := .slice (some ⟨b, oo, none⟩) i c) (y := .slice (some ⟨b, oo + i1 * 3, none⟩) (m - i1) (c - i1)) (T := 22) (drew_below _)
          have B5 := below_step (alloc_below w2 (.cells #[.slice (some ⟨b, oo, none⟩) i c, .slice (some ⟨b, oo + i1 * 3, none⟩) (m - i1) (c - i1)] 22)) (drew_below _)
          obtain ⟨b5, hb5⟩ : ∃ b, w2.heap.size = b := ⟨_, rfl⟩
          obtain ⟨W5, hW5⟩ : ∃ W, (w2.alloc (.cells #[.slice (some ⟨b, oo, none⟩) i c, .slice (some ⟨b, oo + i1 * 3, none⟩) (m - i1) (c - i1)] 22)).drew = W := ⟨_, rfl⟩
          rw [hW5] at Y5 B5 ⊢
          rw [hb5] at Y5
          have hAW := (unhide HA).below (below_step (unhide HB2) B5)
          have hA1 : TRow W5 (some ⟨b, oo, none⟩) i c f := ⟨by omega, hAW.2.1, fun h => by obtain ⟨b', o', e, h1, h2⟩ := hAW.2.2 (by omega); exact ⟨b', o', e, h1, fun j hj => h2 j (by omega)⟩⟩
          have hA2 : TRow W5 (some ⟨b, oo + i1 * 3, none⟩) (m - i1) (c - i1) (fun j => f (i + 1 + j)) := ⟨by omega, by omega, fun h => by
            obtain ⟨b', o', e, h1, h2⟩ := hAW.2.2 (by omega)
            have e := Option.some.inj e
            injection e with e1 e2
            subst e1
            subst e2
            refine ⟨b, oo + i1 * 3, rfl, h1, fun j hj => ?_⟩
            have h3 := h2 (i1 + j) (by omega)
            rw [unhide HI1]
            rw [show oo + i1 * 3 + j * 3 = oo + (i1 + j) * 3 by omega]
            exact h3⟩
          have HCAT := hide (concat_any b5 (some ⟨b, oo, none⟩) i c f (some ⟨b, oo + i1 * 3, none⟩) (m - i1) (c - i1) (fun j => f (i + 1 + j)) W5 Y5.1 Y5.2 hA1 hA2 (by omega))
          have HB5 := hide (below_step (unhide HB2) B5)
          have HO5 := hide ((unhide HO2).keep B5)
          have HRW : Hid (firsts f i ++ firsts (fun j => f (i + 1 + j)) ((m - i1)) = firsts (fr f i) (m - 1)) := by
            show _ = _
            rw [← firsts_rest f hlt, unhide HI1]
          clear Y5 B5 hAW hA1 hA2 HO2 HB2
          refine hK.out _ _ trivial ?_
          clear hK K
          (try simp only [Act.put, List.setIfInBounds_toArray, List.set_cons_zero, List.set_cons_succ])
          refine wpHold_one (k := 8) (by kernel_rfl) rfl (fun K hK => ?_)
          (try simp only [List.getElem_toArray, List.getElem_cons_succ, List.getElem_cons_zero])
          go_simp
          refine (unhide HCAT).mono ?_
          rintro e w6 ⟨v6, rfl, hO6, hb6⟩
          rw [unhide HRW] at hO6
          obtain ⟨a6, c6, rfl, ht6⟩ := hO6.trow
          rw [firsts_length] at ht6 ⊢
          obtain ⟨mr, hmr⟩ : ∃ x, m - 1 = x := ⟨_, rfl⟩
          rw [hmr] at ht6 ⊢
          have HT6 : Hid (TRow w6 a6 mr c6 (fr f i)) := trow_congr ht6 (fun j hj => by rw [← hmr] at hj ⊢; exact firsts_get _ hj)
          have HB6 := hide (below_step (unhide HB5) hb6)
          have HO6 := hide ((unhide HO5).keep hb6)
          have q5 := ht6.1
          have q6 := ht6.2.1
          have HMR := hide hmr
          clear ht6 hO6 hb6 HB5 HO5 HCAT hmr
          refine hK.out _ _ trivial ?_
          clear hK K
          (try simp only [Act.put, List.setIfInBounds_toArray, List.set_cons_zero, List.set_cons_succ])
          refine wpHold_one (k := 9) (by kernel_rfl) rfl (fun K hK => ?_)
          (try simp only [List.getElem_toArray, List.getElem_cons_succ, List.getElem_cons_zero])
          go_simp
          refine hK.out _ _ trivial ?_
          clear hK K
          (try simp only [Act.put, List.setIfInBounds_toArray, List.set_cons_zero, List.set_cons_succ])
          refine wpHold_done (by kernel_rfl) ?_ _
          clear bd0 hC0 HTR hW5
          have HJ := hide (joined_any pn a6 mr c6 (fr f i) pa pc P x w6 (unhide HT6) ((unhide HP).below (unhide HB6)) h01 h60 (by have := unhide HMR; omega) (by have := (unhide HT).good.rest (k := i); rw [unhide HMR] at this; exact this) (unhide HG) (unhide HXN))
          go_wp2_with fail
          refine (unhide HJ).mono ?_
          rintro e w7 ⟨outj, rfl, hrun, hend, hb7⟩
          have HV : Hid (jnd outj P pn = Tre.Ps pn s P i p) := by
            have e := unhide HMR
            refine jnd_ps (unhide HT) hlt (unhide HIN) ?_ ?_
            · rw [e]; exact hrun
            · rw [e]; exact hend
          have HB7 := hide (below_step (unhide HB6) hb7)
          have HO7 := hide ((unhide HO6).keep hb7)
          obtain ⟨V, hV⟩ : ∃ V, jnd outj P pn = V := ⟨_, rfl⟩
          rw [hV] at HV ⊢
          have O4 := (unhide HO7).keep (alloc_below w7 (.cells #[.int .i64 V] 3))
          have HO4 := hide O4
          have QLE := brs_len pn f s P p i
          have Q63 : Hid ((brs pn f s P p i).length + 1 ≤ maxLen) := by show _ ≤ _; unfold maxLen; omega
          have Q8 : Hid (((brs pn f s P p i).length + 1) * 8 ≤ 140737488355328) := by show _ ≤ _; omega
          have QB : Hid (w.heap.size ≤ (w7.alloc (.cells #[.int .i64 V] 3)).heap.size) := Nat.le_trans (unhide HB7).size (alloc_below w7 _).size
          have HBS2 : Hid (brs pn f s P p (i + 1) = brs pn f s P p i ++ [V]) := by show _ = _; rw [unhide HBS, unhide HV]; rfl
          clear hrun hend hb7 hV HJ HB6 HO6 O4 QLE HBS HV
          go_wp2_with (at_builtin; go_loud (refine wpList_append_lies _ rfl _ _ _ rfl w.heap.size 3 ti (.int .i64 0) 1 8 Tryd.underlying31 (unhide HI) (unhide HZ) hz1 hz2 rfl (by decide) _ (brs pn f s P p i).length ((brs pn f s P p i).map (Value.int .i64 ·)) rfl (unhide HO4) ⟨w7.heap.size, 0, none⟩ 1 1 [.int .i64 V] rfl rfl (news_int w7 V _) (one_int _) (by decide) (unhide Q63) (unhide Q8) (unhide QB) (w7.heap.size + 1) (alloc_size _ _) ?_; intro g8 cap8 w8 own8 grow8 hat8 hlt8; have HO8 := hide (OwnL.push own8); have HB8 := hide (OwnL.grow (unhide HO7) (unhide HB7) (Nat.le_refl _) (alloc_below w7 _) grow8); clear own8 grow8 hat8 hlt8))
          exact ⟨⟨i + 1, by rw [unhide HI1], hlt, by rw [unhide HBS2]; exact unhide HO8, unhide HB8⟩, by have := unhide HI1; simp [intOf]; omega⟩
      · rw [hox] at HBS ⊢
        have HBS2 : Hid (brs pn f s P p (i + 1) = brs pn f s P p i) := by show _ = _; rw [unhide HBS]; rfl
        clear hox hno HBS
        go_wp2
        exact ⟨⟨i + 1, rfl, hlt, by rw [unhide HBS2]; exact unhide HO2, unhide HB2⟩, by simp [intOf]; omega⟩
    · obtain rfl : i = m := by omega
      have e3 : ¬ (i : Int) < (i : Int) := by omega
      have HO := hide hO
      have HB := hide hb
      clear hO hb
      go_wp2
      go_ret2
      exact unhide HFIN _ _ ⟨unhide HB, Or.inr ⟨rfl, _, rfl, unhide HO⟩⟩
end Go.Proofs.YtcmddkekidgkoaaDoor
