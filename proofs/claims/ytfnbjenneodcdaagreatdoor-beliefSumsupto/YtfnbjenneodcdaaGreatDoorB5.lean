/- What BeliefSums needs: sums of both beliefs. -/
import Derived.Test.YtfnbjenneodcdaaGreatDoorBL27
namespace Go.Proofs.YtfnbjenneodcdaaGreatDoor
open Go.RowKit Go.Sort Go.Shelf

theorem flt_one {A : Nat → Nat → Rat} {n t : Nat} (h : Bth.ps (A t) n ≠ 0) : Bth.ps (flt_ A n t) n = 1 := by
  show Bth.ps (fun i => A t i / Bth.ps (A t) n) n = 1
  rw [Bth.ps_div]
  exact Bth.div_self h
theorem smo_one {m : Blf.Hm} {s : Nat → Nat} {T t : Nat} (ht : t < T) (hq : Blf.seen m s T ≠ 0) : Bth.ps (smo_ (Blf.al m s) (Blf.bw m s T (Blf.mn m.n)) (Blf.seen m s T) T t) m.n = 1 := by
  have hb := Blf.both (m := m) (s := s) (T := T) (T - 1 - t) t (by omega)
  obtain ⟨u, rfl⟩ : ∃ u, T = u + 1 := ⟨T - 1, by omega⟩
  have hs : Blf.seen m s (u + 1) = Bth.ps (Blf.al m s u) m.n := rfl
  have e : Bth.ps (smo_ (Blf.al m s) (Blf.bw m s (u + 1) (Blf.mn m.n)) (Blf.seen m s (u + 1)) (u + 1) t) m.n = Bth.ps (fun i => Blf.al m s t i * Blf.bw m s (u + 1) (Blf.mn m.n) (u + 1 - 1 - t) i / Blf.seen m s (u + 1)) m.n := Bth.ps_congr _ (fun i _ => by
    unfold smo_
    rw [Rat.div_def, Rat.div_def]
    grind)
  rw [e, Bth.ps_div, hb, hs]
  show Bth.ps (Blf.al m s u) m.n / Bth.ps (Blf.al m s u) m.n = 1
  exact Bth.div_self (by rw [← hs]; exact hq)
theorem last_same {m : Blf.Hm} {s : Nat → Nat} {u : Nat} (i : Nat) : flt_ (Blf.al m s) m.n u i = smo_ (Blf.al m s) (Blf.bw m s (u + 1) (Blf.mn m.n)) (Blf.seen m s (u + 1)) (u + 1) u i := by
  unfold flt_ smo_
  have e : u + 1 - 1 - u = 0 := by omega
  rw [e]
  show _ = Blf.al m s u i / Bth.ps (Blf.al m s u) m.n * 1
  rw [Rat.mul_one]
theorem more_signs {m : Blf.Hm} {K : Nat} (h : Blf.Ok m K) (s : Nat → Nat) (T : Nat) : Bth.ps (fun k => Blf.seen m (Blf.snoc s T k) (T + 1)) K = Blf.seen m s T := Blf.more h s T

end Go.Proofs.YtfnbjenneodcdaaGreatDoor
/- The signs with one more sign: what is made in any order. -/
namespace Go.Proofs.YtfnbjenneodcdaaGreatDoor
open Go.RowKit Go.Sort Go.Shelf

theorem app_none {P : Program} (w : World) (t ty e : TypeId) (i : TypeInfo) (ht : P.underlying t = some (.slice e)) (hi : P.info? e = some i) (b : Addr) (a : Option Addr) (n cap c : Nat) (hle : n ≤ cap) :
    (Builtin.append_ #[t, t] ty #[.slice (some b) n cap, .slice a 0 c]).run P w = .ok (.slice (some b) n cap) w := by
  cases a <;> simp [Builtin.append_, run_underlying ht, Builtin.lenOf, Builtin.firstCells, sizeOf, typeInfo, hi, hle, storeCells, loadCells, loadCellsFrom]
theorem step_append_none {P : Program} {w : World} {ops : Array Oper} {o : Oper} {a : Act} {K : Act → World → Prop} {Q : Exit → Act → World → Prop} {E : Prop} (hgd : o.guard = none) (s x : Operand) (t : TypeId)
    (ho : o.op = .call { callee := .builtin .append, args := #[s, x], argTypes := #[t, t] }) (e : TypeId) (i : TypeInfo) (ht : P.underlying t = some (.slice e)) (hi : P.info? e = some i)
    (b : Addr) (n cap : Nat) (hle : n ≤ cap) (hs : a.eval s = .slice (some b) n cap) (ad : Option Addr) (c : Nat) (hx : a.eval x = .slice ad 0 c)
    (h : K (a.put o.dst (.slice (some b) n cap)) w) : if Region.wanted o (yielded ops a.tmps) = true then Oper.wp P o a w K Q else E := by
  have hw : Region.wanted o (yielded ops a.tmps) = true := by simp [Region.wanted, hgd]
  rw [if_pos hw]
  have hr := app_none (P := P) w t o.type e i ht hi b ad n cap c hle
  unfold Oper.wp execOp
  simp only [ho, resolve, invoke, builtin, Sem.run_bind, Sem.run_pure, Result.andThen_ok, List.map_toArray, List.map_cons, List.map_nil, hs, hx, hr]
  exact h
theorem step_app {ops : Array Oper} {o : Oper} {a : Act} {w : World} {K : Act → World → Prop} {Q : Exit → Act → World → Prop} {E : Prop} (hgd : o.guard = none) (s x : Operand)
    (ho : o.op = .call { callee := .builtin .append, args := #[s, x], argTypes := #[36, 36] }) (ti : TypeInfo) (hi : Tryz.prog.info? 3 = some ti) (hz0 : ti.zero = some (.int .i64 0)) (hz1 : ti.size = 1) (hz2 : ti.bytes = 8)
    (base g n cap : Nat) (xs : List Value) (hs : a.eval s = .slice (some ⟨g, 0, none⟩) n cap) (hown : w.ownsRow base 3 1 (.slice (some ⟨g, 0, none⟩) n cap) n xs)
    (ad : Addr) (m c : Nat) (news : List Value) (hx : a.eval x = .slice (some ad) m c) (hl : news.length = m) (hnews : ∀ j u, news[j]? = some u → w.cell? (ad.add j) = some u) (h1 : ∀ u ∈ news, u.oneCell' = true)
    (hnm : n + m ≤ 100000) (hbase : base ≤ w.heap.size)
    (h : ∀ g' cap' w', w'.ownsRow base 3 1 (.slice (some ⟨g', 0, none⟩) (n + m) cap') (n + m) (xs ++ news) → w.grownBy w' (some g) → (g' = g ∨ g' = w.heap.size) → K (a.put o.dst (.slice (some ⟨g', 0, none⟩) (n + m) cap')) w') :
    if Region.wanted o (yielded ops a.tmps) = true then Oper.wp Tryz.prog o a w K Q else E := by
  by_cases h0 : m = 0
  · subst h0
    have hne : news = [] := List.eq_nil_of_length_eq_zero hl
    subst hne
    have hle : n ≤ cap := by
      rcases hown.2 with ⟨e, _⟩ | ⟨g', cap', cur, hv, _, _, hle, _⟩
      · cases e
      · injection hv with e1 e2 e3; omega
    refine step_append_room hgd s x 36 ho 3 ti 1 Tryz.underlying36 hi hz1 g 0 n cap hs ad 0 c [] hx (by simp) (fun j u hu => by simp at hu) (fun u hu => absurd hu List.not_mem_nil) (by omega) (fun j hj => absurd hj (Nat.not_lt_zero _)) ?_
    exact h g cap w (by rw [Nat.add_zero, List.append_nil]; exact hown) ⟨rfl, rfl, rfl, Nat.le_refl _, fun _ _ _ => rfl⟩ (Or.inl rfl)
  · refine step_append_lies _ hgd s x 36 ho base 3 ti (.int .i64 0) 1 8 Tryz.underlying36 hi hz0 hz1 hz2 rfl (by decide) _ n xs hs hown ad m c news hx (by rw [hl, Nat.mul_one]) hnews h1 (by omega) (by unfold maxLen; omega) (by omega) hbase _ rfl ?_
    intro g' cap' w' h2 h3 h4 _
    refine h g' cap' w' h2 h3 ?_
    rcases h4 with e | e
    · exact Or.inl (Option.some.inj e).symm
    · exact Or.inr e
def nx25 (s : Nat × Bool × Bool) (i : Nat) : Option (Nat × Bool × Bool) :=
  if i = 1 ∧ s.1 = 0 then some (1, s.2.1, s.2.2) else if i = 3 ∧ s.1 = 1 then some (2, s.2.1, s.2.2) else if i = 6 ∧ s.1 = 2 ∧ s.2.1 = true then some (3, s.2.1, s.2.2) else if i = 7 ∧ s.1 = 3 then some (4, s.2.1, s.2.2) else if i = 5 ∧ s.2.1 = false then some (s.1, true, s.2.2) else if i = 11 ∧ s.2.2 = false then some (s.1, s.2.1, true) else none
def fu25 (s : Nat × Bool × Bool) : Nat := 5 + (4 - s.1) + (if s.2.1 = true then 0 else 1) + (if s.2.2 = true then 0 else 1)
theorem chain25_any {P : Program} {ops : Array Oper} {Q : Exit → Act → World → Prop} {C : World → Prop} {md : Region.Mode} (mk : Nat × Bool × Bool → Array Bool) (I : Nat → Bool → Bool → Act → World → Prop)
    (hne : ∀ s : Nat × Bool × Bool, s.1 < 4 → (Region.ready md ops (mk s)).isEmpty = false)
    (hck : ∀ s : Nat × Bool × Bool, s.1 < 4 → (Region.ready md ops (mk s)).all (fun m => match nx25 s m with | some s' => ((mk s).setIfInBounds m true == mk s') && (fu25 s == fu25 s' + 1) | none => false) = true)
    (h1 : ∀ b l a w, I 0 b l a w → wpOp P ops Q 1 (fun a' w' => C w' ∧ I 1 b l a' w') a w)
    (h3 : ∀ b l a w, I 1 b l a w → wpOp P ops Q 3 (fun a' w' => C w' ∧ I 2 b l a' w') a w)
    (h6 : ∀ l a w, I 2 true l a w → wpOp P ops Q 6 (fun a' w' => C w' ∧ I 3 true l a' w') a w)
    (h7 : ∀ b l a w, I 3 b l a w → wpOp P ops Q 7 (fun a' w' => C w' ∧ I 4 b l a' w') a w)
    (h5 : ∀ c l a w, I c false l a w → wpOp P ops Q 5 (fun a' w' => C w' ∧ I c true l a' w') a w)
    (h11 : ∀ c b a w, I c b false a w → wpOp P ops Q 11 (fun a' w' => C w' ∧ I c b true a' w') a w)
    (hf : ∀ c b l a w, 4 ≤ c → I c b l a w → wpHold P md ops Q C (fu25 (c, b, l)) (mk (c, b, l)) a w) : ∀ a w, I 0 false false a w → wpHold P md ops Q C 11 (mk (0, false, false)) a w := by
  intro a w h
  refine walk_any mk fu25 (fun s => decide (4 ≤ s.1)) nx25 (fun s a w => I s.1 s.2.1 s.2.2 a w) (fun s hs => hne s (by have := of_decide_eq_false hs; omega)) ?_ ?_ ?_ 11 (0, false, false) rfl a w h
  · intro s hs
    have h1 := hck s (by have := of_decide_eq_false hs; omega)
    rw [List.all_eq_true] at h1 ⊢
    intro m hm
    have h2 := h1 m hm
    cases e : nx25 s m with
    | none => rw [e] at h2; cases h2
    | some s' => rw [e] at h2; exact h2
  · rintro ⟨c, b, l⟩ m s' hs a w h
    unfold nx25 at hs
    by_cases k1 : m = 1 ∧ c = 0
    · obtain ⟨rfl, rfl⟩ := k1
      rw [if_pos ⟨rfl, rfl⟩] at hs
      injection hs with hs
      subst hs
      exact h1 b l a w h
    rw [if_neg k1] at hs
    by_cases k3 : m = 3 ∧ c = 1
    · obtain ⟨rfl, rfl⟩ := k3
      rw [if_pos ⟨rfl, rfl⟩] at hs
      injection hs with hs
      subst hs
      exact h3 b l a w h
    rw [if_neg k3] at hs
    by_cases k6 : m = 6 ∧ c = 2 ∧ b = true
    · obtain ⟨rfl, rfl, rfl⟩ := k6
      rw [if_pos ⟨rfl, rfl, rfl⟩] at hs
      injection hs with hs
      subst hs
      exact h6 l a w h
    rw [if_neg k6] at hs
    by_cases k7 : m = 7 ∧ c = 3
    · obtain ⟨rfl, rfl⟩ := k7
      rw [if_pos ⟨rfl, rfl⟩] at hs
      injection hs with hs
      subst hs
      exact h7 b l a w h
    rw [if_neg k7] at hs
    by_cases k5 : m = 5 ∧ b = false
    · obtain ⟨rfl, rfl⟩ := k5
      rw [if_pos ⟨rfl, rfl⟩] at hs
      injection hs with hs
      subst hs
      exact h5 c l a w h
    rw [if_neg k5] at hs
    by_cases k11 : m = 11 ∧ l = false
    · obtain ⟨rfl, rfl⟩ := k11
      rw [if_pos ⟨rfl, rfl⟩] at hs
      injection hs with hs
      subst hs
      exact h11 c b a w h
    rw [if_neg k11] at hs
    cases hs
  · rintro ⟨c, b, l⟩ hs a w h
    exact hf c b l a w (of_decide_eq_true hs) h
/-- What stands while the signs get one more. -/
structure SgJ (T k : Nat) (f : Nat → Int) (q : Rat) (w0 : World) (c : Nat) (b l : Bool) (w : World) (s1 s2 s3 s4 s5 s6 : Value) : Prop where
  bl : Below w0.heap.size w0 w
  bb : 3 ≤ c → b = true
  e1 : c = 1 → ∃ g, s1 = .slice (some ⟨g, 0, none⟩) 0 0 ∧ w.heap[g]? = some (.cells #[] 3) ∧ w0.heap.size ≤ g
  e2 : c = 2 → ∃ g cap, s2 = .slice (some ⟨g, 0, none⟩) T cap ∧ w.ownsRow w0.heap.size 3 1 s2 T (lrow f T) ∧ (b = true → ∀ g3, s3 = .slice (some ⟨g3, 0, none⟩) 1 1 → g ≠ g3)
  e3 : b = true → c ≤ 2 → ∃ g, s3 = .slice (some ⟨g, 0, none⟩) 1 1 ∧ w.heap[g]? = some (.cells #[.int .i64 (k : Int)] 3) ∧ w0.heap.size ≤ g
  e4 : c = 3 → ∃ g cap, s4 = .slice (some ⟨g, 0, none⟩) (T + 1) cap ∧ w.ownsRow w0.heap.size 3 1 s4 (T + 1) (lrow f T ++ [.int .i64 (k : Int)])
  e5 : 4 ≤ c → ∃ t : Tri, s5 = .tuple #[t.val, .nilIface] ∧ RatIs w t.val q
  al : l = true → ∃ x, s6 = .pointer (some ⟨x, 0, none⟩) ∧ BoxIs w x zTri 0 ∧ w0.heap.size ≤ x
theorem own_int {w : World} {B : Nat} {v : Value} {n : Nat} {xs : List Value} (h : w.ownsRow B 3 1 v n xs) : ∀ k, v.ownBlock = some k → B ≤ k ∧ k < w.heap.size ∧ ∀ cs T, T ≠ 3 → w.heap[k]? ≠ some (.cells cs T) := by
  intro k hk
  obtain ⟨h1, ⟨rfl, _⟩ | ⟨g, cap, cur, rfl, hb, hh, hr⟩⟩ := h
  · cases hk
  · have : g = k := Option.some.inj hk
    subst this
    refine ⟨hb, (Array.getElem?_eq_some_iff.1 hh).1, fun cs T hT e => ?_⟩
    rw [e] at hh
    injection hh with hh
    injection hh with _ hh
    exact hT hh
theorem own_int_keep {w w' : World} {B : Nat} {v : Value} {n : Nat} {xs : List Value} (h : w.ownsRow B 3 1 v n xs) (hb : Below w.heap.size w w') : w'.ownsRow B 3 1 v n xs := by
  refine ⟨h.1, ?_⟩
  rcases h.2 with h2 | ⟨g, cap, cur, hv, hbg, hh, hr⟩
  · exact Or.inl h2
  · exact Or.inr ⟨g, cap, cur, hv, hbg, by rw [hb.block g (Array.getElem?_eq_some_iff.1 hh).1]; exact hh, hr⟩
/-- A box of a fraction is kept where a row of ints grows. -/
theorem BoxIs.intgrow {w w' : World} {x : Nat} {t : Tri} {g : Nat} (h : BoxIs w x zTri 0) (hg : w.grownBy w' (some g)) (hne : ∀ cs T, T ≠ 3 → w.heap[g]? ≠ some (.cells cs T)) (_t : t = t) : BoxIs w' x zTri 0 :=
  ⟨by rw [hg.block x h.lt (fun e => by injection e with e; subst e; exact absurd h.1 (hne _ _ (by decide)))]; exact h.1, rat_zero _⟩
theorem nrow_of_own {w : World} {B g cap n : Nat} {f : Nat → Int} (h : w.ownsRow B 3 1 (.slice (some ⟨g, 0, none⟩) n cap) n (lrow f n)) : NRow w (.slice (some ⟨g, 0, none⟩) n cap) n f := by
  rcases h.2 with ⟨h1, _⟩ | ⟨g', cap', cur, hv, hbg, hh, hc1, hc2, hs, ht⟩
  · cases h1
  · injection hv with e1 e2 e3
    injection e1 with e1
    injection e1 with e1
    subst e1
    subst e3
    refine ⟨_, _, rfl, hc1, by unfold maxLen at hc2; exact hc2, fun _ => ⟨g, 0, rfl, (Array.getElem?_eq_some_iff.1 hh).1, fun j hj => ?_⟩⟩
    simp only [World.cell?, hh, Nat.zero_add]
    have e : (cur.toList.take (n * 1))[j]? = (lrow f n)[j]? := by rw [ht]
    rw [List.getElem?_take_of_lt (by omega), lrow_get f hj] at e
    simpa using e
def fmore (f : Nat → Int) (T k : Nat) (i : Nat) : Int := if i = T then (k : Int) else f i
theorem lrow_more (f : Nat → Int) (T k : Nat) : lrow f T ++ [.int .i64 (k : Int)] = lrow (fmore f T k) (T + 1) := by
  unfold lrow
  rw [List.range_succ, List.map_append]
  congr 1
  · refine List.map_congr_left (fun i hi => ?_)
    have := List.mem_range.1 hi
    unfold fmore
    rw [if_neg (by omega)]
  · unfold fmore
    simp
theorem seen_more {m : Blf.Hm} (f : Nat → Int) (T k : Nat) : Blf.seen m (sOf (fmore f T k)) (T + 1) = Blf.seen m (Blf.snoc (sOf f) T k) (T + 1) := by
  show Bth.ps (Blf.al m _ T) m.n = Bth.ps (Blf.al m _ T) m.n
  rw [Blf.al_congr (s := sOf (fmore f T k)) (s' := Blf.snoc (sOf f) T k) T (fun u _ => by
    unfold sOf fmore Blf.snoc
    by_cases e : u = T
    · rw [if_pos e, if_pos e]; omega
    · rw [if_neg e, if_neg e])]
theorem scode_more {fs : List Rat} {P G : List (List Rat)} {T k : Nat} {f : Nat → Int} (h : scode fs P G T f = 0) (hT : T + 1 ≤ 12) (hk : k < (G[0]!).length) : scode fs P G (T + 1) (fmore f T k) = 0 := by
  obtain ⟨h0, _, hs⟩ := scode_good h
  unfold scode
  rw [if_pos h0, if_pos hT]
  have e : anyS (G[0]!).length (fmore f T k) (T + 1) = false := anyS_false (fun j hj => by
    unfold badS fmore
    by_cases e : j = T
    · rw [if_pos e, decide_eq_false (by omega), decide_eq_false (by omega)]; rfl
    · have := hs j (by omega)
      rw [if_neg e, decide_eq_false (by omega), decide_eq_false (by omega)]; rfl)
  rw [e]; rfl

end Go.Proofs.YtfnbjenneodcdaaGreatDoor
