/- Moore's and Hodgson's row. -/
import Derived.Test.YtmpigipeajdgcaaL14
import Derived.Test.YtmpigipeajdgcaaL10
namespace Go.Proofs.Ytmpigipeajdgcaa
open Go.RowKit Go.Sort Stb

theorem app_none {P : Program} (w : World) (t ty e : TypeId) (i : TypeInfo) (ht : P.underlying t = some (.slice e)) (hi : P.info? e = some i) (b : Addr) (a : Option Addr) (n cap c : Nat) (hle : n ≤ cap) :
    (Builtin.append_ #[t, t] ty #[.slice (some b) n cap, .slice a 0 c]).run P w = .ok (.slice (some b) n cap) w := by
  cases a <;> simp [Builtin.append_, run_underlying ht, Builtin.lenOf, Builtin.firstCells, sizeOf, typeInfo, hi, hle, storeCells, loadCells, loadCellsFrom]
theorem wpList_append_none {P : Program} (w : World) {ops : Array Oper} {rest : List Oper} {o : Oper} {a : Act} {Q : Exit → Act → World → Prop} (hgd : o.guard = none) (s x : Operand) (t : TypeId)
    (ho : o.op = .call { callee := .builtin .append, args := #[s, x], argTypes := #[t, t] }) (e : TypeId) (i : TypeInfo) (ht : P.underlying t = some (.slice e)) (hi : P.info? e = some i)
    (b : Addr) (n cap : Nat) (hle : n ≤ cap) (hs : a.eval s = .slice (some b) n cap) (ad : Option Addr) (c : Nat) (hx : a.eval x = .slice ad 0 c)
    (h : wpList P ops Q rest (a.put o.dst (.slice (some b) n cap)) w) : wpList P ops Q (o :: rest) a w := by
  refine wpList_plain hgd fun K hK => ?_
  have hr := app_none (P := P) w t o.type e i ht hi b ad n cap c hle
  unfold Oper.wp execOp
  simp only [ho, resolve, invoke, builtin, Sem.run_bind, Sem.run_pure, Result.andThen_ok, List.map_toArray, List.map_cons, List.map_nil, hs, hx, hr]
  exact hK _ _ h

def mstep (f : Nat → T3) (s : List Nat × List Nat) (x : Nat) : List Nat × List Nat :=
  if Lin.psum (pT f) (s.1 ++ [x]) ≤ dT f x then (s.1 ++ [x], s.2) else ((s.1 ++ [x]).eraseIdx (lg (pT f) (s.1 ++ [x]) (s.1 ++ [x]).length), s.2 ++ [(s.1 ++ [x])[lg (pT f) (s.1 ++ [x]) (s.1 ++ [x]).length]!])
def mfold (f : Nat → T3) (q : List Nat) : List Nat × List Nat := q.foldl (mstep f) ([], [])
theorem mfold_snoc (f : Nat → T3) (q : List Nat) (x : Nat) : mfold f (q ++ [x]) = mstep f (mfold f q) x := by unfold mfold; rw [List.foldl_append]; rfl
theorem mem_get {xs : List Nat} {j : Nat} (hj : j < xs.length) : xs[j]! ∈ xs := by rw [getElem!_pos xs j hj]; exact List.getElem_mem _
theorem mstep_mem (f : Nat → T3) {s : List Nat × List Nat} {x : Nat} {P : Nat → Prop} (h1 : ∀ y ∈ s.1, P y) (h2 : ∀ y ∈ s.2, P y) (hx : P x) : (∀ y ∈ (mstep f s x).1, P y) ∧ ∀ y ∈ (mstep f s x).2, P y := by
  have h3 : ∀ y ∈ s.1 ++ [x], P y := fun y hy => by
    rcases List.mem_append.1 hy with c | c
    · exact h1 y c
    · rw [List.mem_singleton.1 c]; exact hx
  unfold mstep
  split
  · exact ⟨h3, h2⟩
  · refine ⟨fun y hy => h3 y (List.mem_of_mem_eraseIdx hy), fun y hy => ?_⟩
    rcases List.mem_append.1 hy with c | c
    · exact h2 y c
    · rw [List.mem_singleton.1 c]
      exact h3 _ (mem_get (lg_lt _ _ _ (by simp)))
theorem mfold_mem (f : Nat → T3) {P : Nat → Prop} : ∀ (q : List Nat) (s : List Nat × List Nat), (∀ y ∈ s.1, P y) → (∀ y ∈ s.2, P y) → (∀ x ∈ q, P x) → (∀ y ∈ (q.foldl (mstep f) s).1, P y) ∧ ∀ y ∈ (q.foldl (mstep f) s).2, P y
  | [], s, h1, h2, _ => ⟨h1, h2⟩
  | x :: q, s, h1, h2, h3 => by
    have := mstep_mem f h1 h2 (h3 x (List.mem_cons_self ..))
    exact mfold_mem f q (mstep f s x) this.1 this.2 (fun y hy => h3 y (List.mem_cons_of_mem _ hy))
theorem mstep_len (f : Nat → T3) (s : List Nat × List Nat) (x : Nat) : (mstep f s x).1.length + (mstep f s x).2.length = s.1.length + s.2.length + 1 := by
  unfold mstep
  split
  · simp; omega
  · have := lg_lt (pT f) (s.1 ++ [x]) (s.1 ++ [x]).length (by simp)
    rw [List.length_eraseIdx, if_pos this]
    simp only [List.length_append, List.length_singleton]
    omega
theorem mfold_len (f : Nat → T3) : ∀ (q : List Nat) (s : List Nat × List Nat), (q.foldl (mstep f) s).1.length + (q.foldl (mstep f) s).2.length = s.1.length + s.2.length + q.length
  | [], s => rfl
  | x :: q, s => by
    have h := mfold_len f q (mstep f s x)
    have h2 := mstep_len f s x
    show (q.foldl (mstep f) (mstep f s x)).1.length + (q.foldl (mstep f) (mstep f s x)).2.length = _
    simp only [List.length_cons]
    omega
/-- It is the rule of the theory. -/
theorem mfold_moo (f : Nat → T3) (q : List Nat) : ∀ (xs on out : List Nat), Lin.Moo (pT f) (dT f) q on xs out → (∀ u ∈ on, ∀ x ∈ xs, dT f u ≤ dT f x) → xs.Pairwise (fun x y => dT f x ≤ dT f y) → (∀ u ∈ on ++ xs, 0 ≤ pT f u) → Lin.Moo (pT f) (dT f) q (xs.foldl (mstep f) (on, out)).1 [] (xs.foldl (mstep f) (on, out)).2
  | [], on, out, h, _, _, _ => h
  | x :: xs, on, out, h, h1, h2, h3 => by
    have h2' := List.pairwise_cons.1 h2
    have hps : Lin.psum (pT f) (on ++ [x]) = Lin.psum (pT f) on + pT f x := by rw [Lin.psum_append]; show _ + (pT f x + 0) = _; omega
    have hd : ∀ u ∈ on ++ [x], ∀ y ∈ xs, dT f u ≤ dT f y := fun u hu y hy => by
      rcases List.mem_append.1 hu with c | c
      · exact h1 u c y (List.mem_cons_of_mem _ hy)
      · rw [List.mem_singleton.1 c]; exact h2'.1 y hy
    have hp : ∀ u ∈ (on ++ [x]) ++ xs, 0 ≤ pT f u := fun u hu => h3 u (by simpa using hu)
    show Lin.Moo _ _ q (xs.foldl (mstep f) (mstep f (on, out) x)).1 [] (xs.foldl (mstep f) (mstep f (on, out) x)).2
    unfold mstep
    by_cases c : Lin.psum (pT f) (on ++ [x]) ≤ dT f x
    · rw [if_pos c]
      exact mfold_moo f q xs (on ++ [x]) out (Lin.moo_on _ _ h (by rw [← hps]; exact c)) hd h2'.2 hp
    · rw [if_neg c]
      obtain ⟨k, hk⟩ : ∃ k, lg (pT f) (on ++ [x]) (on ++ [x]).length = k := ⟨_, rfl⟩
      have hkl : k < (on ++ [x]).length := by rw [← hk]; exact lg_lt _ _ _ (by simp)
      have hmx : ∀ u ∈ on ++ [x], pT f u ≤ pT f (on ++ [x])[k]! := fun u hu => by
        obtain ⟨j, hj, e⟩ := List.mem_iff_getElem.1 hu
        rw [← e, ← getElem!_pos (on ++ [x]) j hj, ← hk]
        exact lg_max _ _ _ j hj
      show Lin.Moo _ _ q (xs.foldl (mstep f) ((on ++ [x]).eraseIdx _, _)).1 [] (xs.foldl (mstep f) ((on ++ [x]).eraseIdx _, _)).2
      rw [hk]
      have e : on ++ [x] = (on ++ [x]).take k ++ (on ++ [x])[k]! :: (on ++ [x]).drop (k + 1) := by
        rw [getElem!_pos (on ++ [x]) k hkl, ← List.drop_eq_getElem_cons hkl, List.take_append_drop]
      have h4 := Lin.moo_off _ _ h (by rw [← hps]; exact c) e hmx (fun u hu => h1 u hu x (List.mem_cons_self ..)) h3
      rw [← List.eraseIdx_eq_take_drop_succ] at h4
      refine mfold_moo f q xs _ _ h4 (fun u hu => hd u (List.mem_of_mem_eraseIdx hu)) h2'.2 (fun u hu => ?_)
      rcases List.mem_append.1 hu with c' | c'
      · exact hp u (List.mem_append_left _ (List.mem_of_mem_eraseIdx c'))
      · exact hp u (List.mem_append_right _ c')
/-- The whole row. -/
def mrow (f : Nat → T3) (q : List Nat) : List Nat := (mfold f q).1 ++ (mfold f q).2
def lI (L : List Nat) : Nat → Int := fun j => ((L[j]! : Nat) : Int)
theorem rl_lI (L : List Nat) : rl (lI L) L.length = L := by
  unfold rl lI
  apply List.ext_getElem
  · simp
  · intro j h1 h2
    simp [h2]
theorem goodR_perm {n : Nat} {L : List Nat} (h : L.Perm (List.range n)) : GoodR n (lI L) := by
  have hl : L.length = n := by have := h.length_eq; simpa using this
  have hd : L.Nodup := h.nodup_iff.2 List.nodup_range
  refine ⟨fun i hi => ?_, fun i j hi hj e => ?_⟩
  · have := List.mem_range.1 (h.subset (mem_get (xs := L) (j := i) (by omega)))
    unfold lI
    omega
  · unfold lI at e
    have e' : L[i]! = L[j]! := by omega
    rw [getElem!_pos L i (by omega), getElem!_pos L j (by omega)] at e'
    exact (List.getElem_inj hd).1 e'
theorem moo_of {n : Nat} {f : Nat → T3} {g : Nat → Nat} (hT : GoodT n f) (hg : Re 0 n id g) (hsr : Sr (ltc (fun i k => jcmp (f i) (f k))) g 0 n) : Lin.Moo (pT f) (dT f) ((List.range n).map g) (mfold f ((List.range n).map g)).1 [] (mfold f ((List.range n).map g)).2 := by
  refine mfold_moo f _ _ [] [] (Lin.moo_start _ _ _) (fun u hu => absurd hu List.not_mem_nil) (jack_pair hg hsr) (fun u hu => ?_)
  have h := pT_nonneg hT (goodR_re hg)
  rw [rl_nI] at h
  exact h u (by simpa using hu)
theorem mrow_perm {n : Nat} {f : Nat → T3} {g : Nat → Nat} (hT : GoodT n f) (hg : Re 0 n id g) (hsr : Sr (ltc (fun i k => jcmp (f i) (f k))) g 0 n) : (mrow f ((List.range n).map g)).Perm (List.range n) := by
  have h := (moo_of hT hg hsr).all
  rw [List.append_nil] at h
  have h2 := rl_perm (goodR_re hg)
  rw [rl_nI] at h2
  exact h.symm.trans h2
theorem moore_least {n : Nat} {f : Nat → T3} {g s : Nat → Nat} (hT : GoodT n f) (hg : Re 0 n id g) (hs : Re 0 n id s) (hsr : Sr (ltc (fun i k => jcmp (f i) (f k))) g 0 n) : tardyV f (lI (mrow f ((List.range n).map g))) n ≤ tardyV f (nI s) n := by
  have hp := mrow_perm hT hg hsr
  have hl : (mrow f ((List.range n).map g)).length = n := by have := hp.length_eq; simpa using this
  rw [tardy_lin (goodR_perm hp), tardy_lin (goodR_re hs)]
  have e := rl_lI (mrow f ((List.range n).map g))
  rw [hl] at e
  rw [e]
  have h2 := (rl_perm (goodR_re hg)).trans (rl_perm (goodR_re hs)).symm
  rw [rl_nI] at h2
  exact Lin.moore (pT f) (dT f) (moo_of hT hg hsr) (jack_pair hg hsr) h2 (pT_nonneg hT (goodR_re hs))

/-- What a function that makes a row leaves. -/
def LRow (w : World) (n : Nat) (f : Nat → T3) (P : List Nat → Prop) (e : Ending) (w' : World) : Prop :=
  Below w.heap.size w w' ∧ ((tcode n f ≠ 0 ∧ e = .returned (.tuple #[.slice none 0 0, .iface 53 (.int .i64 (tcode n f))])) ∨ (tcode n f = 0 ∧ ∃ (va : Option Addr) (rc : Nat) (L : List Nat), e = .returned (.tuple #[.slice va n rc, .nilIface]) ∧ IRow w' va n rc (lI L) ∧ L.Perm (List.range n) ∧ P L))
theorem OwnN.irow {w : World} {B : Nat} {v : Value} {xs : List Nat} (h : OwnN w B v xs) : ∃ a c, v = .slice a xs.length c ∧ IRow w a xs.length c (lI xs) := by
  obtain ⟨a, c, e, h1, h2, h3⟩ := OwnL.irow h
  rw [List.length_map] at e h1 h3
  refine ⟨a, c, e, h1, h2, fun hp => ?_⟩
  obtain ⟨b, o, e1, e2, e3⟩ := h3 hp
  refine ⟨b, o, e1, e2, fun j hj => ?_⟩
  rw [e3 j hj]
  show some (Value.int .i64 (xs.map (fun x => ((x : Nat) : Int)))[j]!) = _
  rw [getN xs hj]
  rfl
theorem psum_bd {n : Nat} {f : Nat → T3} (hT : GoodT n f) : ∀ (xs : List Nat), (∀ x ∈ xs, x < n) → 0 ≤ Lin.psum (pT f) xs ∧ Lin.psum (pT f) xs ≤ 1000000000 * xs.length
  | [], _ => by show (0 : Int) ≤ 0 ∧ (0 : Int) ≤ 1000000000 * ((0 : Nat) : Int); omega
  | x :: xs, h => by
    have ih := psum_bd hT xs (fun y hy => h y (List.mem_cons_of_mem _ hy))
    have b := hT.p x (h x (List.mem_cons_self ..))
    have e : Lin.psum (pT f) (x :: xs) = (f x).1 + Lin.psum (pT f) xs := rfl
    rw [e, List.length_cons]
    omega
theorem psum_erase (p : Nat → Int) {xs : List Nat} {k : Nat} (hk : k < xs.length) : Lin.psum p (xs.eraseIdx k) = Lin.psum p xs - p xs[k]! := by
  have e : xs = xs.take k ++ xs[k]! :: xs.drop (k + 1) := by
    rw [getElem!_pos xs k hk, ← List.drop_eq_getElem_cons hk, List.take_append_drop]
  rw [List.eraseIdx_eq_take_drop_succ, Lin.psum_append]
  have e2 : Lin.psum p xs = Lin.psum p (xs.take k) + (p xs[k]! + Lin.psum p (xs.drop (k + 1))) := by
    conv => lhs; rw [e, Lin.psum_append]
    rfl
  omega
theorem map_erase (xs : List Nat) (k : Nat) : (xs.map (fun x => ((x : Nat) : Int))).eraseIdx k = (xs.eraseIdx k).map (fun x => ((x : Nat) : Int)) := by
  rw [List.eraseIdx_eq_take_drop_succ, List.eraseIdx_eq_take_drop_succ, List.map_append, List.map_take, List.map_drop]
theorem app_none0 {P : Program} (w : World) (t ty e : TypeId) (i : TypeInfo) (ht : P.underlying t = some (.slice e)) (hi : P.info? e = some i) (a : Option Addr) (c : Nat) :
    (Builtin.append_ #[t, t] ty #[.slice none 0 0, .slice a 0 c]).run P w = .ok (.slice none 0 0) w := by
  cases a <;> simp [Builtin.append_, run_underlying ht, Builtin.lenOf, Builtin.firstCells, sizeOf, typeInfo, hi, loadCells, loadCellsFrom]
theorem wpList_append_none0 {P : Program} (w : World) {ops : Array Oper} {rest : List Oper} {o : Oper} {a : Act} {Q : Exit → Act → World → Prop} (hgd : o.guard = none) (s x : Operand) (t : TypeId)
    (ho : o.op = .call { callee := .builtin .append, args := #[s, x], argTypes := #[t, t] }) (e : TypeId) (i : TypeInfo) (ht : P.underlying t = some (.slice e)) (hi : P.info? e = some i)
    (hs : a.eval s = .slice none 0 0) (ad : Option Addr) (c : Nat) (hx : a.eval x = .slice ad 0 c)
    (h : wpList P ops Q rest (a.put o.dst (.slice none 0 0)) w) : wpList P ops Q (o :: rest) a w := by
  refine wpList_plain hgd fun K hK => ?_
  have hr := app_none0 (P := P) w t o.type e i ht hi ad c
  unfold Oper.wp execOp
  simp only [ho, resolve, invoke, builtin, Sem.run_bind, Sem.run_pure, Result.andThen_ok, List.map_toArray, List.map_cons, List.map_nil, hs, hx, hr]
  exact hK _ _ h
theorem news_own {w : World} {B g n c : Nat} {xs : List Nat} (h : OwnN w B (.slice (some ⟨g, 0, none⟩) n c) xs) : ∀ j u, ((xs.map (fun x => ((x : Nat) : Int))).map (Value.int .i64 ·))[j]? = some u → w.cell? ((⟨g, 0, none⟩ : Addr).add j) = some u := fun j u hu => by
  have hj : j < (xs.map (fun x => ((x : Nat) : Int))).length := by
    have := (List.getElem?_eq_some_iff.1 hu).1
    simpa using this
  have h1 := (OwnL.cell h hj).1
  rw [Go.WideShapes.add_plain, Nat.zero_add, h1, ← hu]
  simp at hj
  simp [hj]
theorem one_ints (xs : List Int) : ∀ u ∈ xs.map (Value.int .i64 ·), u.oneCell' = true := by
  intro u hu
  obtain ⟨x, _, rfl⟩ := List.mem_map.1 hu
  rfl
/-- One number appended to a row. -/
theorem news_one (w : World) (x : Nat) (T : TypeId) : ∀ j u, [Value.int .i64 ((x : Nat) : Int)][j]? = some u → (w.alloc (.cells #[.int .i64 ((x : Nat) : Int)] T)).cell? ((⟨w.heap.size, 0, none⟩ : Addr).add j) = some u := news_int w _ T

set_option maxHeartbeats 8000000 in
set_option maxRecDepth 100000 in
set_option linter.unusedSimpArgs false in
theorem moore_any (a : Option Addr) (n c : Nat) (f : Nat → T3) (w : World) (ha : TRow w a n c f) :
    Calls Try.prog 13 #[.slice a n c] w (LRow w n f (fun L => ∃ g, Re 0 n id g ∧ Sr (ltc (fun i k => jcmp (f i) (f k))) g 0 n ∧ L = mrow f ((List.range n).map g))) := by
  obtain ⟨ti, hi, hz0, hz1, hz2⟩ := info_parts Try.infoI
  have HI := hide hi
  have HZ := hide hz0
  have HA := hide ha
  have HC := hide (jackson_any a n c f w ha)
  clear hi hz0 ha
  go_enter Try.func13, Try.ntmps13
  go_wp2_with fail
  refine (unhide HC).mono ?_
  rintro e w1 ⟨hb, hp⟩
  rcases hp with ⟨h1, rfl⟩ | ⟨h1, G, g, hG, rfl, hO, hre, hsr⟩
  · obtain ⟨k, hk⟩ : ∃ k, tcode n f = k := ⟨_, rfl⟩
    rw [hk] at h1
    rw [hk]
    have HK := hide hk
    have HT := hide h1
    clear hk h1
    go_wp2
    go_ret2
    refine ⟨hb, Or.inl ?_⟩
    rw [unhide HK]
    exact ⟨unhide HT, rfl⟩
  · have gT := goodT_of h1
    have HT := hide h1
    have HGT := hide gT
    have HO := hide hO
    have HRE := hide hre
    have HSR := hide hsr
    have HB := hide hb
    have HLT : Hid (∀ i, i < n → g i < n) := hre.lt (Nat.le_refl _) (fun i hi => hi)
    have hn60 := gT.few
    clear h1 gT hO hre hsr hb hG HC
    go_wp2_with fail
    go_loopw [6, 7, 8, 22] (fun vr vo ve vi wr => ∃ k : Nat, vi = .int .i64 (k : Int) ∧ k ≤ n ∧ Two w1 wr vr vo (mfold f ((List.range k).map g)).1 (mfold f ((List.range k).map g)).2 ∧ ve = .int .i64 (Lin.psum (pT f) (mfold f ((List.range k).map g)).1)) (fun _ _ _ vi _ => n - (intOf vi).toNat)
    case atStart => exact ⟨0, rfl, Nat.zero_le _, Two.start w1, rfl⟩
    case round =>
      obtain ⟨k, rfl, hk, hTw, rfl⟩ := hrel
      by_cases hlt : k < n
      · have hO1 := (unhide HO).keep hTw.bl
        have c0 := hO1.cell hlt
        have hgn := unhide HLT k hlt
        obtain ⟨b, o, rfl, hbl, hc3⟩ := ((unhide HA).below (below_step (unhide HB) hTw.bl)).2.2 (by omega)
        obtain ⟨i, hgi⟩ : ∃ i, g k = i := ⟨_, rfl⟩
        simp only [hgi] at c0 hgn
        have ⟨t1, t2, t3⟩ := hc3 i hgn
        have hsn : mfold f ((List.range (k + 1)).map g) = mstep f (mfold f ((List.range k).map g)) i := by rw [List.range_succ, List.map_append, List.map_cons, List.map_nil, mfold_snoc, hgi]
        have HSN := hide hsn
        have hm0 := mfold_mem f (P := fun x => x < n) ((List.range k).map g) ([], []) (fun y hy => absurd hy List.not_mem_nil) (fun y hy => absurd hy List.not_mem_nil) (fun x hx => by
          obtain ⟨j, j1, j2⟩ := List.mem_map.1 hx
          rw [← j2]; exact unhide HLT j (by have := List.mem_range.1 j1; omega))
        have hl0 := mfold_len f ((List.range k).map g) ([], [])
        have hm1 : (∀ y ∈ (mfold f ((List.range k).map g)).1, y < n) ∧ (∀ y ∈ (mfold f ((List.range k).map g)).2, y < n) := hm0
        have hl1 : (mfold f ((List.range k).map g)).1.length + (mfold f ((List.range k).map g)).2.length = k := by
          have : (mfold f ((List.range k).map g)).1.length + (mfold f ((List.range k).map g)).2.length = 0 + 0 + ((List.range k).map g).length := hl0
          simpa using this
        obtain ⟨on, hon⟩ : ∃ x, (mfold f ((List.range k).map g)).1 = x := ⟨_, rfl⟩
        obtain ⟨out, hout⟩ : ∃ x, (mfold f ((List.range k).map g)).2 = x := ⟨_, rfl⟩
        obtain ⟨s0, hs0⟩ : ∃ s, mfold f ((List.range k).map g) = s := ⟨_, rfl⟩
        have hse : s0 = (on, out) := by rw [← hs0, ← hon, ← hout]
        rw [hs0, hse] at HSN
        rw [hon, hout] at hTw hm1 hl1
        rw [hon]
        have pb := psum_bd (unhide HGT) on hm1.1
        have pt := (unhide HGT).p i hgn
        have pd := (unhide HGT).d i hgn
        have hps : Lin.psum (pT f) (on ++ [i]) = Lin.psum (pT f) on + (f i).1 := by rw [Lin.psum_append]; show _ + ((f i).1 + 0) = _; omega
        obtain ⟨E, hE⟩ : ∃ e, Lin.psum (pT f) on = e := ⟨_, rfl⟩
        obtain ⟨⟨x, y, z⟩, hf⟩ : ∃ t, f i = t := ⟨_, rfl⟩
        rw [hf] at t1 t2 t3 pt pd hps
        rw [hE] at pb hps ⊢
        simp only at t1 t2 t3 pt pd hps
        have HPS := hide hps
        have HF := hide hf
        have HM := hide hm1
        have HL := hide hl1
        have HTW := hide hTw
        have pbl : 1000000000 * (on.length : Int) ≤ 60000000000 := by omega
        have hvr := hTw.r.irow
        obtain ⟨av, cv, rfl, _⟩ := hvr
        have O4 := hide (OwnL.keep hTw.r (alloc_below wr (.cells #[.int .i64 ((i : Nat) : Int)] 3)))
        have Q63 : Hid ((on.map (fun x => ((x : Nat) : Int))).length + 1 ≤ maxLen) := by show _ ≤ _; rw [List.length_map]; unfold maxLen; omega
        have Q8 : Hid (((on.map (fun x => ((x : Nat) : Int))).length + 1) * 8 ≤ 140737488355328) := by show _ ≤ _; rw [List.length_map]; omega
        have QB := hide (below_step hTw.bl (alloc_below wr (.cells #[.int .i64 ((i : Nat) : Int)] 3))).size
        have e1 : (0 : Int) ≤ (k : Int) := by omega
        have e2 : (k : Int) < (n : Int) := by omega
        have e3 : (0 : Int) ≤ (i : Int) := by omega
        have e4 : (i : Int) < (n : Int) := by omega
        have e5 : IntKind.i64.wrap (E + x) = E + x := by rw [IntKind.wrap_i64]; omega
        have e6 : IntKind.i64.wrap ((k : Int) + 1) = (k : Int) + 1 := by rw [IntKind.wrap_i64]; omega
        have HHC : Hid (∀ W, Below w1.heap.size w1 W → W.cell? ⟨b, o + i * 3, none⟩ = some (.int .i64 x) ∧ W.cell? ⟨b, o + i * 3 + 1, none⟩ = some (.int .i64 y) ∧ W.cell? ⟨b, o + i * 3 + 2, none⟩ = some (.int .i64 z)) := fun W hW => by
          have hA := ((unhide HA).below (unhide HB)).2.2 (by omega)
          obtain ⟨b', o', e1, e2, e3⟩ := hA
          injection e1 with e1
          injection e1 with e1 e1'
          subst e1 e1'
          rw [hW.cell (p := ⟨b, o + i * 3, none⟩) e2, hW.cell (p := ⟨b, o + i * 3 + 1, none⟩) e2, hW.cell (p := ⟨b, o + i * 3 + 2, none⟩) e2]
          have := e3 i hgn
          rw [hf] at this
          exact this
        have HE := hide hE
        have HEB : Hid (0 ≤ E ∧ E ≤ 60000000000 ∧ 0 ≤ x ∧ x ≤ 1000000000) := ⟨pb.1, by omega, pt.1, pt.2⟩
        clear hO1 hgn hc3 hgi hsn hm0 hl0 hm1 hl1 hTw pb pt pd hps hE hf pbl hon hout hs0 hse t1 t2 t3
        by_cases hle : E + x ≤ z
        · have HST : Hid (mstep f (on, out) i = (on ++ [i], out)) := by
            show mstep f (on, out) i = _
            unfold mstep
            rw [if_pos]
            show Lin.psum (pT f) (on ++ [i]) ≤ (f i).2.2
            rw [unhide HPS, unhide HF]; exact hle
          go_wp2_with (at_builtin; go_loud (refine wpList_append_lies _ rfl _ _ _ rfl w1.heap.size 3 ti (.int .i64 0) 1 8 Try.underlying23 (unhide HI) (unhide HZ) hz1 hz2 rfl (by decide) _ (on.map (fun x => ((x : Nat) : Int))).length ((on.map (fun x => ((x : Nat) : Int))).map (Value.int .i64 ·)) rfl (unhide O4) ⟨wr.heap.size, 0, none⟩ 1 1 [.int .i64 ((i : Nat) : Int)] rfl rfl (news_one wr i _) (one_int _) (by decide) (unhide Q63) (unhide Q8) (unhide QB) (wr.heap.size + 1) (alloc_size _ _) ?_; intro g5 cap5 w5 own5 grow5 hat5 hlt5; have PTW := hide ((unhide HTW).push own5 grow5 hat5); have ⟨t1, t2, t3⟩ := unhide HHC w5 (unhide PTW).bl; clear own5 grow5 hat5 hlt5))
          (try simp only [List.length_map])
          refine ⟨⟨k + 1, by go_num, hlt, ?_, ?_⟩, by simp [intOf]; omega⟩
          · rw [unhide HSN, unhide HST]; exact unhide PTW
          · rw [unhide HSN, unhide HST, unhide HPS]
        · go_wp2_with (at_builtin; go_loud (refine wpList_append_lies _ rfl _ _ _ rfl w1.heap.size 3 ti (.int .i64 0) 1 8 Try.underlying23 (unhide HI) (unhide HZ) hz1 hz2 rfl (by decide) _ (on.map (fun x => ((x : Nat) : Int))).length ((on.map (fun x => ((x : Nat) : Int))).map (Value.int .i64 ·)) rfl (unhide O4) ⟨wr.heap.size, 0, none⟩ 1 1 [.int .i64 ((i : Nat) : Int)] rfl rfl (news_one wr i _) (one_int _) (by decide) (unhide Q63) (unhide Q8) (unhide QB) (wr.heap.size + 1) (alloc_size _ _) ?_; intro g5 cap5 w5 own5 grow5 hat5 hlt5; have PTW := hide ((unhide HTW).push own5 grow5 hat5); have ⟨t1, t2, t3⟩ := unhide HHC w5 (unhide PTW).bl; clear own5 grow5 hat5 hlt5))
          clear O4 Q63 Q8 QB HTW
          (try simp only [List.length_map])
          obtain ⟨m, hm⟩ : ∃ m, lg (pT f) (on ++ [i]) (on ++ [i]).length = m := ⟨_, rfl⟩
          have hml : m < (on ++ [i]).length := by rw [← hm]; exact lg_lt _ _ _ (by simp)
          have hmem : ∀ y ∈ on ++ [i], y < n := fun y hy => by
            rcases List.mem_append.1 hy with c | c
            · exact (unhide HM).1 y c
            · rw [List.mem_singleton.1 c]; omega
          have hyn : (on ++ [i])[m]! < n := hmem _ (mem_get hml)
          have HST : Hid (mstep f (on, out) i = ((on ++ [i]).eraseIdx m, out ++ [(on ++ [i])[m]!])) := by
            show mstep f (on, out) i = _
            unfold mstep
            rw [if_neg]
            · show ((on ++ [i]).eraseIdx (lg (pT f) (on ++ [i]) (on ++ [i]).length), out ++ [(on ++ [i])[lg (pT f) (on ++ [i]) (on ++ [i]).length]!]) = _
              rw [hm]
            · show ¬ Lin.psum (pT f) (on ++ [i]) ≤ (f i).2.2
              rw [unhide HPS, unhide HF]; exact Int.not_le.2 (Int.not_le.1 (by first | exact hle | exact Int.not_le.2 hle))
          have hll := unhide HL
          have hr5 := (unhide PTW).r
          have hlen5 : (on ++ [i]).length = on.length + 1 := by simp
          have hir := hr5.irow
          obtain ⟨av, cvv, ev, hir⟩ := hir
          rw [hlen5] at ev hir
          injection ev with ea _ ec
          subst ea ec
          have HLG := hide (longest_any (some ⟨b, o, none⟩) n c f (some ⟨g5, 0, none⟩) cap5 (on ++ [i]) w5 ((unhide HA).below (below_step (unhide HB) (unhide PTW).bl)) (by rw [hlen5]; exact hir) hmem (by omega) (by omega))
          rw [hm, hlen5] at HLG
          obtain ⟨v, hv⟩ : ∃ v, (on ++ [i])[m]! = v := ⟨_, rfl⟩
          have cm := OwnL.cell hr5 (j := m) (by simpa using hml)
          rw [getN _ hml, hv] at cm
          have HPE := hide (psum_erase (pT f) hml)
          have HST' : Hid (mstep f (on, out) i = ((on ++ [i]).eraseIdx m, out ++ [v])) := by rw [← hv]; exact unhide HST
          rw [hv] at hyn HPE
          have HMM : Hid (m < on.length + 1) := by show m < on.length + 1; omega
          have hvp := (unhide HGT).p v hyn
          have HCV : Hid (∀ W, Below w1.heap.size w1 W → W.cell? ⟨b, o + v * 3, none⟩ = some (.int .i64 (f v).1)) := fun W hW => by
            have hA := ((unhide HA).below (unhide HB)).2.2 (by omega)
            obtain ⟨b', o', e1, e2, e3⟩ := hA
            injection e1 with e1
            injection e1 with e1 e1'
            subst e1 e1'
            rw [hW.cell (p := ⟨b, o + v * 3, none⟩) e2]
            exact (e3 v hyn).1
          obtain ⟨u, hu⟩ : ∃ u, (f v).1 = u := ⟨_, rfl⟩
          have HPE' : Hid (Lin.psum (pT f) ((on ++ [i]).eraseIdx m) = E + x - u) := by
            show Lin.psum (pT f) ((on ++ [i]).eraseIdx m) = _
            rw [unhide HPE, unhide HPS, ← hu]; rfl
          rw [hu] at HCV hvp
          have HOL := hide hll
          have heb := unhide HEB
          have e9 : IntKind.i64.wrap (E + x - u) = E + x - u := by rw [IntKind.wrap_i64]; omega
          have e10 : (0 : Int) ≤ (v : Int) := by omega
          have e11 : (v : Int) < (n : Int) := by omega
          have e12 : (0 : Int) ≤ (m : Int) := by omega
          have e13 : (m : Int) < ((on.length + 1 : Nat) : Int) := by omega
          have e14 : IntKind.i64.wrap ((m : Int) + 1) = ((m + 1 : Nat) : Int) := by rw [IntKind.wrap_i64]; omega
          obtain ⟨m1, hm1⟩ : ∃ x, m + 1 = x := ⟨_, rfl⟩
          obtain ⟨l1, hl1⟩ : ∃ x, on.length + 1 = x := ⟨_, rfl⟩
          rw [hm1] at e14
          have HM1 := hide hm1
          have HL1 := hide hl1
          rw [hl1] at e13 HLG ⊢
          rw [hl1] at PTW HMM
          have cm1 := cm.1
          have hg5 : g5 < w5.heap.size := World.block_lt_of_cell? w5 _ cm1
          clear hm hml hmem hyn HST hll hr5 hlen5 hir hv hvp hu HPE heb cm hm1 hl1 hle e5
          refine (unhide HLG).mono ?_
          rintro e w6 ⟨rfl, hb6⟩
          have PT6 := hide ((unhide PTW).keep hb6)
          have cm6 : w6.cell? ⟨g5, m, none⟩ = some (.int .i64 (v : Int)) := by rw [hb6.cell (p := ⟨g5, m, none⟩) hg5]; exact cm1
          have hg6 : g5 < w6.heap.size := World.block_lt_of_cell? w6 _ cm6
          obtain ⟨ao, co, rfl, _⟩ := (unhide PT6).o.irow
          have O4 := hide (OwnL.keep (unhide PT6).o (alloc_below w6 (.cells #[.int .i64 ((v : Nat) : Int)] 3)))
          have Q63 : Hid ((out.map (fun x => ((x : Nat) : Int))).length + 1 ≤ maxLen) := by show _ ≤ _; rw [List.length_map]; have := unhide HOL; unfold maxLen; omega
          have Q8 : Hid (((out.map (fun x => ((x : Nat) : Int))).length + 1) * 8 ≤ 140737488355328) := by show _ ≤ _; rw [List.length_map]; have := unhide HOL; omega
          have QB := hide (below_step (unhide PT6).bl (alloc_below w6 (.cells #[.int .i64 ((v : Nat) : Int)] 3))).size
          clear hb6 cm1 hg5 t1 t2 t3 PTW HLG
          go_wp2_with (at_builtin; go_loud (refine wpList_append_lies _ rfl _ _ _ rfl w1.heap.size 3 ti (.int .i64 0) 1 8 Try.underlying23 (unhide HI) (unhide HZ) hz1 hz2 rfl (by decide) _ (out.map (fun x => ((x : Nat) : Int))).length ((out.map (fun x => ((x : Nat) : Int))).map (Value.int .i64 ·)) rfl (unhide O4) ⟨w6.heap.size, 0, none⟩ 1 1 [.int .i64 ((v : Nat) : Int)] rfl rfl (news_one w6 v _) (one_int _) (by decide) (unhide Q63) (unhide Q8) (unhide QB) (w6.heap.size + 1) (alloc_size _ _) ?_; intro g7 cap7 w7 own7 grow7 hat7 hlt7; have PTO := hide ((unhide PT6).sym.push own7 grow7 hat7); have PCM := hide (grow7.cell (a := ⟨g5, m, none⟩) (v := .int .i64 (v : Int)) (by rw [(alloc_below w6 _).cell (p := ⟨g5, m, none⟩) hg6]; exact cm6) (fun e => (unhide PT6).ne g5 rfl e.symm)); have cm7 : w7.cell? ⟨g5, m, none⟩ = some (.int .i64 (v : Int)) := unhide PCM; have cv7 := unhide HCV w7 (unhide PTO).bl; clear own7 grow7 hat7 hlt7))
          (try simp only [List.length_map])
          clear O4 Q63 Q8 QB PT6 cm6 PCM hg6
          have HDE := hide (del_any w7 w1.heap.size g5 l1 cap5 ((on ++ [i]).map (fun x => ((x : Nat) : Int))) m (unhide PTO).o (by have := unhide HMM; have := unhide HL1; simp; omega) (by have := unhide HOL; simp; omega))
          rw [unhide HM1] at HDE
          refine (unhide HDE).mono ?_
          rintro e w8 ⟨rfl, hO8, hg8⟩
          have HTF : Hid (Two w1 w8 (.slice (some ⟨g5, 0, none⟩) (l1 - 1) cap5) (.slice (some ⟨g7, 0, none⟩) (out.length + 1) cap7) ((on ++ [i]).eraseIdx m) (out ++ [v])) :=
            (unhide PTO).sym.del hg8 (by unfold OwnN; rw [← map_erase]; exact hO8) rfl
          clear hO8 hg8 HDE cm7 cv7
          go_wp2_with fail
          refine ⟨⟨k + 1, by go_num, hlt, ?_, ?_⟩, by simp [intOf]; omega⟩
          · rw [unhide HSN, unhide HST']; exact unhide HTF
          · rw [unhide HSN, unhide HST', unhide HPE']
      · obtain rfl : k = n := by omega
        have e1 : ¬ (k : Int) < (k : Int) := by omega
        have hrow : (mrow f ((List.range k).map g)).Perm (List.range k) := mrow_perm (unhide HGT) (unhide HRE) (unhide HSR)
        have hlen : (mfold f ((List.range k).map g)).1.length + (mfold f ((List.range k).map g)).2.length = k := by
          have := hrow.length_eq
          unfold mrow at this
          simpa using this
        have HP : Hid ((mrow f ((List.range k).map g)).Perm (List.range k) ∧ ∃ g', Re 0 k id g' ∧ Sr (ltc (fun i k => jcmp (f i) (f k))) g' 0 k ∧ mrow f ((List.range k).map g) = mrow f ((List.range k).map g')) := ⟨hrow, g, unhide HRE, unhide HSR, rfl⟩
        have hmr : mrow f ((List.range k).map g) = (mfold f ((List.range k).map g)).1 ++ (mfold f ((List.range k).map g)).2 := rfl
        obtain ⟨L, hL⟩ : ∃ L, mrow f ((List.range k).map g) = L := ⟨_, rfl⟩
        obtain ⟨on, hon⟩ : ∃ x, (mfold f ((List.range k).map g)).1 = x := ⟨_, rfl⟩
        obtain ⟨out, hout⟩ : ∃ x, (mfold f ((List.range k).map g)).2 = x := ⟨_, rfl⟩
        rw [hon, hout] at hTw hlen
        rw [hL, hon, hout] at hmr
        rw [hL] at HP
        rw [hon]
        obtain ⟨E, hE⟩ : ∃ e, Lin.psum (pT f) on = e := ⟨_, rfl⟩
        rw [hE]
        have hTr := hTw.r
        have hTo := hTw.o
        obtain ⟨ao, co, rfl, hio⟩ := hTw.o.irow
        obtain ⟨ar, cr, rfl, hir⟩ := hTw.r.irow
        have HBT := hide (below_step (unhide HB) hTw.bl)
        have HBL := hide hTw.bl
        have HMR := hide hmr
        have HLE := hide hlen
        by_cases ho : out.length = 0
        · have honL : on.length = k := by omega
          have HLO : Hid (L = on) := by show L = on; rw [hmr, List.eq_nil_of_length_eq_zero ho, List.append_nil]
          rw [ho] at hTo hio ⊢
          rw [honL] at hir hTr ⊢
          have HIR := hide hir
          rcases hTr.2 with ⟨hv, h0⟩ | ⟨g5, cap, cur, hv, hgB, hgg, hle1, _⟩
          · injection hv with e2 e3 e4
            subst e2 e3 e4
            clear hTw hTr hTo hio hir hrow hlen hmr hL hon hout hE h0 honL ho hk
            go_wp2_with (at_builtin; go_loud (refine wpList_append_none0 _ rfl _ _ _ rfl 3 ti Try.underlying23 (unhide HI) rfl _ _ rfl ?_))
            go_ret2
            exact ⟨unhide HBT, Or.inr ⟨unhide HT, none, 0, L, rfl, by rw [unhide HLO]; exact unhide HIR, (unhide HP).1, (unhide HP).2⟩⟩
          · injection hv with e2 e3 e4
            subst e2 e4
            rw [List.length_map, honL] at hle1
            clear e3
            clear hTw hTr hTo hio hir hrow hlen hmr hL hon hout hE honL ho hk hgg hgB
            go_wp2_with (at_builtin; go_loud (refine wpList_append_none _ rfl _ _ _ rfl 3 ti Try.underlying23 (unhide HI) _ _ _ hle1 rfl _ _ rfl ?_))
            go_ret2
            exact ⟨unhide HBT, Or.inr ⟨unhide HT, _, _, L, rfl, by rw [unhide HLO]; exact unhide HIR, (unhide HP).1, (unhide HP).2⟩⟩
        · rcases hTo.2 with ⟨hv, h0⟩ | ⟨g5, cap, cur, hv, hgB, hgg, hle1, _⟩
          · rw [List.length_map] at h0; exact absurd h0 ho
          · injection hv with e2 e3 e4
            subst e2 e4
            clear e3
            have NEW := hide (news_own hTo)
            have OR := hide hTr
            have QB := hide hTw.bl.size
            have QL : Hid (((out.map (fun x => ((x : Nat) : Int))).map (Value.int .i64 ·)).length = out.length * 1) := by show _ = _; simp
            have Q63 : Hid ((on.map (fun x => ((x : Nat) : Int))).length + out.length ≤ maxLen) := by show _ ≤ _; rw [List.length_map]; unfold maxLen; omega
            have Q8 : Hid (((on.map (fun x => ((x : Nat) : Int))).length + out.length) * 8 ≤ 140737488355328) := by show _ ≤ _; rw [List.length_map]; omega
            have QP : Hid (0 < out.length) := by show 0 < out.length; omega
            have QR : Hid (∀ k, (Value.slice ar on.length cr).ownBlock = some k → w1.heap.size ≤ k) := fun k hk => OwnL.row hTr k hk
            clear hTw hTr hTo hio hir hrow hlen hmr hL hon hout hE ho hk hgg hgB hle1
            go_wp2_with (at_builtin; go_loud (refine wpList_append_lies _ rfl _ _ _ rfl w1.heap.size 3 ti (.int .i64 0) 1 8 Try.underlying23 (unhide HI) (unhide HZ) hz1 hz2 rfl (by decide) _ (on.map (fun x => ((x : Nat) : Int))).length ((on.map (fun x => ((x : Nat) : Int))).map (Value.int .i64 ·)) rfl (unhide OR) ⟨g5, 0, none⟩ out.length _ ((out.map (fun x => ((x : Nat) : Int))).map (Value.int .i64 ·)) rfl (unhide QL) (unhide NEW) (one_ints _) (unhide QP) (unhide Q63) (unhide Q8) (unhide QB) wr.heap.size rfl ?_; intro g7 cap7 w7 own7 grow7 hat7 hlt7; have HO7 := hide own7; have HB7 := hide (Below.grown (unhide HBL) grow7 (unhide QB) (unhide QR)); clear own7 grow7 hat7 hlt7))
            go_ret2
            have hl := unhide HLE
            have hL7 : OwnN w7 w1.heap.size (.slice (some ⟨g7, 0, none⟩) ((on.map (fun x => ((x : Nat) : Int))).length + out.length) cap7) L := by
              unfold OwnN
              rw [unhide HMR, List.map_append]
              unfold OwnL
              have eo : (out.map (fun x => ((x : Nat) : Int))).length = out.length := List.length_map _
              rw [List.map_append, List.length_append, eo]
              exact unhide HO7
            obtain ⟨a7, c7, e7, hi7⟩ := hL7.irow
            have hLL : L.length = k := by rw [unhide HMR, List.length_append]; exact hl
            rw [hLL] at e7 hi7
            refine ⟨below_step (unhide HB) (unhide HB7), Or.inr ⟨unhide HT, a7, c7, L, ?_, hi7, (unhide HP).1, (unhide HP).2⟩⟩
            rw [← e7, List.length_map]
            rfl
end Go.Proofs.Ytmpigipeajdgcaa
