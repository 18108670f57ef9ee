/- The document's row of Moore and Hodgson. -/
import Derived.Test.YtmpigipeajdgcaaDoorL27
namespace Go.Proofs.YtmpigipeajdgcaaDoor
open Go.RowKit Go.Sort Stb

/-- An append to a row that is there, of some or none. -/
theorem step_app {ops : Array Oper} {o : Oper} {a : Act} {w : World} {K : Act → World → Prop} {Q : Exit → Act → World → Prop} {E : Prop} (hgd : o.guard = none) (s x : Operand)
    (ho : o.op = .call { callee := .builtin .append, args := #[s, x], argTypes := #[23, 23] }) (ti : TypeInfo) (hi : Tryd.prog.info? 3 = some ti) (hz0 : ti.zero = some (.int .i64 0)) (hz1 : ti.size = 1) (hz2 : ti.bytes = 8)
    (base g n cap : Nat) (xs : List Value) (hs : a.eval s = .slice (some ⟨g, 0, none⟩) n cap) (hown : w.ownsRow base 3 1 (.slice (some ⟨g, 0, none⟩) n cap) n xs)
    (ad : Addr) (m c : Nat) (news : List Value) (hx : a.eval x = .slice (some ad) m c) (hl : news.length = m) (hnews : ∀ j u, news[j]? = some u → w.cell? (ad.add j) = some u) (h1 : ∀ u ∈ news, u.oneCell' = true)
    (hnm : n + m ≤ 100000) (hbase : base ≤ w.heap.size)
    (h : ∀ g' cap' w', w'.ownsRow base 3 1 (.slice (some ⟨g', 0, none⟩) (n + m) cap') (n + m) (xs ++ news) → w.grownBy w' (some g) → (g' = g ∨ g' = w.heap.size) → K (a.put o.dst (.slice (some ⟨g', 0, none⟩) (n + m) cap')) w') :
    if Region.wanted o (yielded ops a.tmps) = true then Oper.wp Tryd.prog o a w K Q else E := by
  by_cases h0 : m = 0
  · subst h0
    have hne : news = [] := List.eq_nil_of_length_eq_zero hl
    subst hne
    have hle : n ≤ cap := by
      rcases hown.2 with ⟨e, _⟩ | ⟨g', cap', cur, hv, _, _, hle, _⟩
      · cases e
      · injection hv with e1 e2 e3; omega
    refine step_append_room hgd s x 23 ho 3 ti 1 Tryd.underlying23 hi hz1 g 0 n cap hs ad 0 c [] hx (by simp) (fun j u hu => by simp at hu) (fun u hu => absurd hu List.not_mem_nil) (by omega) (fun j hj => absurd hj (Nat.not_lt_zero _)) ?_
    exact h g cap w (by rw [Nat.add_zero, List.append_nil]; exact hown) ⟨rfl, rfl, rfl, Nat.le_refl _, fun _ _ _ => rfl⟩ (Or.inl rfl)
  · refine step_append_lies _ hgd s x 23 ho base 3 ti (.int .i64 0) 1 8 Tryd.underlying23 hi hz0 hz1 hz2 rfl (by decide) _ n xs hs hown ad m c news hx (by rw [hl, Nat.mul_one]) hnews h1 (by omega) (by unfold maxLen; omega) (by omega) hbase _ rfl ?_
    intro g' cap' w' h2 h3 h4 _
    refine h g' cap' w' h2 h3 ?_
    rcases h4 with e | e
    · exact Or.inl (Option.some.inj e).symm
    · exact Or.inr e
theorem cI_take (xs : List Nat) (k : Nat) : cI (xs.take k) = (cI xs).take k := by unfold cI; rw [List.map_take, List.map_take]
theorem cI_drop (xs : List Nat) (k : Nat) : cI (xs.drop k) = (cI xs).drop k := by unfold cI; rw [List.map_drop, List.map_drop]
theorem cI_append (xs ys : List Nat) : cI (xs ++ ys) = cI xs ++ cI ys := by unfold cI; rw [List.map_append, List.map_append]
theorem cI_one (xs : List Nat) : ∀ u ∈ cI xs, u.oneCell' = true := by unfold cI; exact one_ints _
theorem news_cI {w : World} {B g n c : Nat} {xs : List Nat} (h : OwnN w B (.slice (some ⟨g, 0, none⟩) n c) xs) (off : Nat) : ∀ j u, (cI (xs.drop off))[j]? = some u → w.cell? ((⟨g, off, none⟩ : Addr).add j) = some u := fun j u hu => by
  rw [Go.WideShapes.add_plain]
  have h2 := news_own h (off + j) u (by rw [cI_drop, List.getElem?_drop] at hu; exact hu)
  rw [Go.WideShapes.add_plain, Nat.zero_add] at h2
  exact h2
theorem OwnN.base {w : World} {B B' : Nat} {v : Value} {xs : List Nat} (h : OwnN w B v xs) (hB : B' ≤ B) : OwnN w B' v xs := by
  refine ⟨h.1, ?_⟩
  rcases h.2 with h | ⟨g, cap, cur, hv, hg, h⟩
  · exact Or.inl h
  · exact Or.inr ⟨g, cap, cur, hv, Nat.le_trans hB hg, h⟩
theorem psum_take (p : Nat → Int) (xs : List Nat) {j : Nat} (hj : j < xs.length) : Lin.psum p (xs.take (j + 1)) = Lin.psum p (xs.take j) + p xs[j]! := by
  rw [List.take_succ_eq_append_getElem hj, Lin.psum_append, getElem!_pos xs j hj]
  show _ + (p xs[j] + 0) = _
  rw [Int.add_zero]

def RMPost (w : World) (n : Nat) (f : Nat → T3) (e : Ending) (w' : World) : Prop := ∃ (v : Value) (L : List Nat) (q : List Nat), e = .returned v ∧ OwnN w' w.heap.size v L ∧ q.Perm (List.range n) ∧ q.Pairwise (Lo (ltc (fun i k => jcmp (f i) (f k)))) ∧ L = mrow f q ∧ Below w.heap.size w w'

set_option maxHeartbeats 8000000 in
set_option maxRecDepth 100000 in
set_option linter.unusedSimpArgs false in
theorem rmoore_any (a : Option Addr) (n c : Nat) (f : Nat → T3) (w : World) (ha : TRow w a n c f) (hT : GoodT n f) :
    Calls Tryd.prog 30 #[.slice a n c] w (RMPost w n f) := by
  obtain ⟨ti, hi, hz0, hz1, hz2⟩ := info_parts Tryd.infoI
  have HI := hide hi
  have HZ := hide hz0
  have HA := hide ha
  have HGT := hide hT
  have HC := hide (rjackson_any a n c f w ha hT)
  have hn60 := hT.few
  have qa := ha.1
  have qb := ha.2.1
  clear hi hz0 ha hT
  go_enter Tryd.func30, Tryd.ntmps30
  go_wp2_with fail
  refine (unhide HC).mono ?_
  rintro e w1 ⟨v, q, rfl, hO, hpm, hpw, hb⟩
  have hql : q.length = n := by have := hpm.length_eq; simpa using this
  obtain ⟨aq, cq, rfl, hiq⟩ := hO.irow
  rw [hql] at hiq ⊢
  have HIQ := hide hiq
  have HPM := hide hpm
  have HPW := hide hpw
  have HB := hide hb
  have HQL := hide hql
  have qc := hiq.1
  have qd := hiq.2.1
  have HLT : Hid (∀ j, j < n → q[j]! < n) := fun j hj => List.mem_range.1 (hpm.subset (mem_get (by omega)))
  clear hO hpm hpw hb hiq hql HC
  go_wp2_with fail
  go_loopw [3, 4, 15] (fun vr vo vi wr => ∃ k : Nat, vi = .int .i64 (k : Int) ∧ k ≤ n ∧ Two w1 wr vr vo (mfold f (q.take k)).1 (mfold f (q.take k)).2) (fun _ _ vi _ => n - (intOf vi).toNat)
  case atStart => exact ⟨0, rfl, Nat.zero_le _, Two.start w1⟩
  case round =>
    obtain ⟨k, rfl, hk, hTw⟩ := hrel
    have hql := unhide HQL
    by_cases hlt : k < n
    · obtain ⟨bq, oq, rfl, hblq, hcq⟩ := (unhide HIQ).2.2 (by omega)
      have c0 := hcq k hlt
      rw [← hTw.bl.cell (p := ⟨bq, oq + k, none⟩) hblq] at c0
      unfold lI at c0
      have hgn := unhide HLT k hlt
      obtain ⟨i, hgi⟩ : ∃ i, q[k]! = i := ⟨_, rfl⟩
      rw [hgi] at c0 hgn
      have hsn : mfold f (q.take (k + 1)) = mstep f (mfold f (q.take k)) i := by rw [List.take_succ_eq_append_getElem (by omega), mfold_snoc, ← hgi, getElem!_pos q k (by omega)]
      have HSN := hide hsn
      have hm0 := mfold_mem f (P := fun x => x < n) (q.take k) ([], []) (fun y hy => absurd hy List.not_mem_nil) (fun y hy => absurd hy List.not_mem_nil) (fun x hx => List.mem_range.1 ((unhide HPM).subset (List.mem_of_mem_take hx)))
      have hl0 := mfold_len f (q.take k) ([], [])
      have hm1 : (∀ y ∈ (mfold f (q.take k)).1, y < n) ∧ (∀ y ∈ (mfold f (q.take k)).2, y < n) := hm0
      have hl1 : (mfold f (q.take k)).1.length + (mfold f (q.take k)).2.length = k := by
        have : (mfold f (q.take k)).1.length + (mfold f (q.take k)).2.length = 0 + 0 + (q.take k).length := hl0
        rw [List.length_take] at this
        omega
      obtain ⟨on, hon⟩ : ∃ x, (mfold f (q.take k)).1 = x := ⟨_, rfl⟩
      obtain ⟨out, hout⟩ : ∃ x, (mfold f (q.take k)).2 = x := ⟨_, rfl⟩
      obtain ⟨s0, hs0⟩ : ∃ s, mfold f (q.take k) = s := ⟨_, rfl⟩
      have hse : s0 = (on, out) := by rw [← hs0, ← hon, ← hout]
      rw [hs0, hse] at HSN
      rw [hon, hout] at hTw hm1 hl1
      have HM := hide hm1
      have HL := hide hl1
      have HTW := hide hTw
      obtain ⟨av, cv, rfl, _⟩ := hTw.r.irow
      have O4 := hide (OwnL.keep hTw.r (alloc_below wr (.cells #[.int .i64 ((i : Nat) : Int)] 3)))
      have Q63 : Hid ((on.map (fun x => ((x : Nat) : Int))).length + 1 ≤ maxLen) := by show _ ≤ _; rw [List.length_map]; unfold maxLen; omega
      have Q8 : Hid (((on.map (fun x => ((x : Nat) : Int))).length + 1) * 8 ≤ 140737488355328) := by show _ ≤ _; rw [List.length_map]; omega
      have QB := hide (below_step hTw.bl (alloc_below wr (.cells #[.int .i64 ((i : Nat) : Int)] 3))).size
      have e1 : (0 : Int) ≤ (k : Int) := by omega
      have e2 : (k : Int) < (n : Int) := by omega
      have e3 : (0 : Int) ≤ (i : Int) := by omega
      have e4 : (i : Int) < (n : Int) := by omega
      have e6 : IntKind.i64.wrap ((k : Int) + 1) = (k : Int) + 1 := by rw [IntKind.wrap_i64]; omega
      have HCT : Hid (∀ (j : Nat) W, j < n → Below w1.heap.size w1 W → ∃ b o, a = some ⟨b, o, none⟩ ∧ W.cell? ⟨b, o + j * 3, none⟩ = some (.int .i64 (f j).1) ∧ W.cell? ⟨b, o + j * 3 + 2, none⟩ = some (.int .i64 (f j).2.2)) := fun j W hj hW => by
        obtain ⟨b', o', e1, e2, e3⟩ := ((unhide HA).below (unhide HB)).2.2 (by omega)
        refine ⟨b', o', e1, ?_, ?_⟩
        · rw [hW.cell (p := ⟨b', o' + j * 3, none⟩) e2]; exact (e3 j hj).1
        · rw [hW.cell (p := ⟨b', o' + j * 3 + 2, none⟩) e2]; exact (e3 j hj).2.2
      obtain ⟨l1, hl1'⟩ : ∃ x, on.length + 1 = x := ⟨_, rfl⟩
      have HL1 := hide hl1'
      have hl1b : l1 ≤ 60 := by omega
      clear hgn hcq hgi hsn hm0 hl0 hm1 hl1 hTw hon hout hs0 hse hql hl1'
      go_wp2_with (at_builtin; go_loud (refine wpList_append_lies _ rfl _ _ _ rfl w1.heap.size 3 ti (.int .i64 0) 1 8 Tryd.underlying23 (unhide HI) (unhide HZ) hz1 hz2 rfl (by decide) _ (on.map (fun x => ((x : Nat) : Int))).length ((on.map (fun x => ((x : Nat) : Int))).map (Value.int .i64 ·)) rfl (unhide O4) ⟨wr.heap.size, 0, none⟩ 1 1 [.int .i64 ((i : Nat) : Int)] rfl rfl (news_one wr i _) (one_int _) (by decide) (unhide Q63) (unhide Q8) (unhide QB) (wr.heap.size + 1) (alloc_size _ _) ?_; intro g5 cap5 w5 own5 grow5 hat5 hlt5; have PTW := hide ((unhide HTW).push own5 grow5 hat5); clear own5 grow5 hat5 hlt5))
      clear O4 Q63 Q8 QB HTW
      (try simp only [List.length_map])
      have hcast : ((on.length : Int) + 1) = (l1 : Int) := by have := unhide HL1; omega
      (try rw [hcast])
      rw [unhide HL1] at PTW ⊢
      clear hcast
      obtain ⟨on', hon'⟩ : ∃ x, on ++ [i] = x := ⟨_, rfl⟩
      have hlen' : on'.length = l1 := by rw [← hon', List.length_append]; exact unhide HL1
      have HON := hide hon'
      have HLEN := hide hlen'
      rw [hon'] at PTW
      have HM' : Hid (∀ y ∈ on', y < n) := fun y hy => by
        rw [← hon'] at hy
        rcases List.mem_append.1 hy with c | c
        · exact (unhide HM).1 y c
        · rw [List.mem_singleton.1 c]; omega
      have HCO : Hid (∀ j, j < l1 → w5.cell? ⟨g5, j, none⟩ = some (.int .i64 ((on'[j]! : Nat) : Int))) := fun j hj => by
        have := (OwnL.cell (unhide PTW).r (j := j) (by simp; omega)).1
        rw [getN _ (by omega)] at this
        exact this
      clear hon' hlen'
      go_loopw [7, 25] (fun va vj wv => ∃ j : Nat, vj = .int .i64 (j : Int) ∧ j ≤ l1 ∧ va = .int .i64 (Lin.psum (pT f) (on'.take j)) ∧ wv = w5) (fun _ vj _ => l1 - (intOf vj).toNat)
      case atStart => exact ⟨0, rfl, Nat.zero_le _, rfl, rfl⟩
      case round =>
        obtain ⟨j, rfl, hj, rfl, hwv⟩ := hrel
        obtain rfl := hwv.symm
        have hlen' := unhide HLEN
        by_cases hjl : j < l1
        · have cj := unhide HCO j hjl
          have hyn := unhide HM' _ (mem_get (xs := on') (j := j) (by omega))
          have HP := hide (psum_take (pT f) on' (j := j) (by omega))
          have pb := psum_bd (unhide HGT) (on'.take j) (fun x hx => unhide HM' x (List.mem_of_mem_take hx))
          rw [List.length_take] at pb
          obtain ⟨y, hy⟩ : ∃ y, on'[j]! = y := ⟨_, rfl⟩
          rw [hy] at cj hyn HP
          obtain ⟨b, o, rfl, t1, _⟩ := unhide HCT y _ hyn (unhide PTW).bl
          have hp := (unhide HGT).p y hyn
          have HP' : Hid (Lin.psum (pT f) (on'.take (j + 1)) = Lin.psum (pT f) (on'.take j) + (f y).1) := unhide HP
          obtain ⟨T, hT⟩ : ∃ T, Lin.psum (pT f) (on'.take j) = T := ⟨_, rfl⟩
          obtain ⟨u, hu⟩ : ∃ u, (f y).1 = u := ⟨_, rfl⟩
          rw [hT] at HP' pb ⊢
          rw [hu] at HP' t1 hp
          have f1 : (0 : Int) ≤ (j : Int) := by omega
          have f2 : (j : Int) < (l1 : Int) := by omega
          have f3 : (0 : Int) ≤ (y : Int) := by omega
          have f4 : (y : Int) < (n : Int) := by omega
          have f5 : IntKind.i64.wrap (T + u) = T + u := by rw [IntKind.wrap_i64]; omega
          have f6 : IntKind.i64.wrap ((j : Int) + 1) = (j : Int) + 1 := by rw [IntKind.wrap_i64]; omega
          clear hyn HP pb hy hp hT hu hlen'
          go_wp2
          exact ⟨⟨j + 1, by go_num, hjl, by rw [unhide HP'], by trivial⟩, by simp [intOf]; omega⟩
        · obtain rfl : j = l1 := by omega
          have f2 : ¬ (j : Int) < (j : Int) := by omega
          obtain ⟨b, o, rfl, ti1, ti3⟩ := unhide HCT i _ (by omega) (unhide PTW).bl
          have hps : on'.take j = on' := List.take_of_length_le (by omega)
          rw [hps]
          obtain ⟨E, hE⟩ : ∃ e, Lin.psum (pT f) on' = e := ⟨_, rfl⟩
          rw [hE]
          have HE := hide hE
          obtain ⟨z, hz⟩ : ∃ z, (f i).2.2 = z := ⟨_, rfl⟩
          rw [hz] at ti3
          have HZZ := hide hz
          clear hps hE hz ti1
          by_cases hle : E ≤ z
          · have HST : Hid (mstep f (on, out) i = (on', out)) := by
              show mstep f (on, out) i = _
              unfold mstep
              show (if Lin.psum (pT f) (on ++ [i]) ≤ dT f i then _ else _) = _
              rw [unhide HON, if_pos]
              show Lin.psum (pT f) on' ≤ (f i).2.2
              rw [unhide HE, unhide HZZ]; exact hle
            go_wp2_with fail
            (try simp only [Exit.inBlock, Exit.then])
            (try go_wp2_with fail)
            refine ⟨⟨k + 1, by go_num, hlt, ?_⟩, by simp [intOf]; omega⟩
            rw [unhide HSN, unhide HST]; exact unhide PTW
          · go_wp2_with fail
            (try simp only [Exit.inBlock, Exit.then])
            (try go_wp2_with fail)
            go_loopw [10, 46] (fun va vj wv => ∃ t : Nat, vj = .int .i64 (t : Int) ∧ t ≤ j ∧ va = .int .i64 ((lg (pT f) on' t : Nat) : Int) ∧ Below w5.heap.size w5 wv) (fun _ vj _ => j - (intOf vj).toNat)
            case atStart => exact ⟨0, rfl, Nat.zero_le _, rfl, Below.refl _ _⟩
            case round =>
              obtain ⟨t, rfl, ht, rfl, hbt⟩ := hrel
              have hl1p : 0 < j := by have := unhide HL1; omega
              have hg5 : g5 < w5.heap.size := World.block_lt_of_cell? w5 _ (unhide HCO 0 hl1p)
              by_cases htl : t < j
              · obtain ⟨m, hm⟩ : ∃ m, lg (pT f) on' t = m := ⟨_, rfl⟩
                have hmL : m < j := by
                  rcases Nat.eq_zero_or_pos t with e | e
                  · subst e; rw [← hm]; exact hl1p
                  · have := lg_lt (pT f) on' t e; omega
                have r1 := unhide HCO t htl
                have r2 := unhide HCO m hmL
                rw [← hbt.cell (p := ⟨g5, t, none⟩) hg5] at r1
                rw [← hbt.cell (p := ⟨g5, m, none⟩) hg5] at r2
                have t1 := unhide HM' _ (mem_get (xs := on') (j := t) (by omega))
                have t2 := unhide HM' _ (mem_get (xs := on') (j := m) (by omega))
                have HS : Hid (lg (pT f) on' (t + 1) = if (f on'[m]!).1 < (f on'[t]!).1 then t else m) := by
                  show (if pT f on'[lg (pT f) on' t]! < pT f on'[t]! then t else lg (pT f) on' t) = _
                  rw [hm]; rfl
                rw [hm]
                obtain ⟨i1, hi1⟩ : ∃ i, on'[t]! = i := ⟨_, rfl⟩
                obtain ⟨i2, hi2⟩ : ∃ i, on'[m]! = i := ⟨_, rfl⟩
                rw [hi1] at r1 t1 HS
                rw [hi2] at r2 t2 HS
                obtain ⟨b1, o1, eb1, s1, _⟩ := unhide HCT i1 _ t1 (below_step (unhide PTW).bl hbt)
                obtain ⟨b2, o2, eb2, s2, _⟩ := unhide HCT i2 _ t2 (below_step (unhide PTW).bl hbt)
                injection eb1 with eb1
                injection eb1 with eb1 eo1
                injection eb2 with eb2
                injection eb2 with eb2 eo2
                subst eb1 eo1 eb2 eo2
                obtain ⟨p1, hp1⟩ : ∃ x, (f i1).1 = x := ⟨_, rfl⟩
                obtain ⟨p2, hp2⟩ : ∃ x, (f i2).1 = x := ⟨_, rfl⟩
                rw [hp1] at s1 HS
                rw [hp2] at s2 HS
                have g1 : (0 : Int) ≤ (t : Int) := by omega
                have g2 : (t : Int) < (j : Int) := by omega
                have g3 : (0 : Int) ≤ (m : Int) := by omega
                have g4 : (m : Int) < (j : Int) := by omega
                have g5' : (0 : Int) ≤ (i1 : Int) := by omega
                have g7 : (i1 : Int) < (n : Int) := by omega
                have g8 : (0 : Int) ≤ (i2 : Int) := by omega
                have g9 : (i2 : Int) < (n : Int) := by omega
                have g6 : IntKind.i64.wrap ((t : Int) + 1) = (t : Int) + 1 := by rw [IntKind.wrap_i64]; omega
                have HBT := hide hbt
                clear hbt hi1 hi2 hp1 hp2 hm hlen' hl1p hg5 ti3
                by_cases hlt2 : p2 < p1
                · rw [if_pos hlt2] at HS
                  go_wp2_with fail
                  go_quiet (fail)
                  go_wp2_with fail
                  exact ⟨⟨t + 1, by go_num, htl, by rw [unhide HS], below_step (unhide HBT) (below_drewN _ _)⟩, by simp [intOf]; omega⟩
                · rw [if_neg hlt2] at HS
                  go_wp2_with fail
                  go_quiet (fail)
                  go_wp2_with fail
                  exact ⟨⟨t + 1, by go_num, htl, by rw [unhide HS], below_step (unhide HBT) (below_drewN _ _)⟩, by simp [intOf]; omega⟩
              · obtain rfl : t = j := by omega
                obtain ⟨m, hm⟩ : ∃ m, lg (pT f) on' t = m := ⟨_, rfl⟩
                have hmL : m < t := by rw [← hm]; exact lg_lt _ _ _ hl1p
                obtain ⟨v, hv⟩ : ∃ v, on'[m]! = v := ⟨_, rfl⟩
                have HST : Hid (mstep f (on, out) i = (on'.eraseIdx m, out ++ [v])) := by
                  show mstep f (on, out) i = _
                  unfold mstep
                  show (if Lin.psum (pT f) (on ++ [i]) ≤ dT f i then _ else _) = _
                  rw [if_neg]
                  · show ((on ++ [i]).eraseIdx (lg (pT f) (on ++ [i]) (on ++ [i]).length), out ++ [(on ++ [i])[lg (pT f) (on ++ [i]) (on ++ [i]).length]!]) = _
                    rw [unhide HON, hlen', hm, hv]
                  · rw [unhide HON]
                    show ¬ Lin.psum (pT f) on' ≤ (f i).2.2
                    rw [unhide HE, unhide HZZ]; exact Int.not_le.2 (Int.not_le.1 (by first | exact hle | exact Int.not_le.2 hle))
                have cm := unhide HCO m hmL
                rw [hv] at cm
                have cm6 : wr.cell? ⟨g5, m, none⟩ = some (.int .i64 (v : Int)) := by rw [hbt.cell (p := ⟨g5, m, none⟩) hg5]; exact cm
                have PT6 := hide ((unhide PTW).keep hbt)
                obtain ⟨ao, co, rfl, _⟩ := (unhide PT6).o.irow
                have hol : out.length ≤ 60 := by have := unhide HL; omega
                have O4 := hide (OwnL.keep (unhide PT6).o (alloc_below wr (.cells #[.int .i64 ((v : Nat) : Int)] 3)))
                have Q63 : Hid ((out.map (fun x => ((x : Nat) : Int))).length + 1 ≤ maxLen) := by show _ ≤ _; rw [List.length_map]; unfold maxLen; omega
                have Q8 : Hid (((out.map (fun x => ((x : Nat) : Int))).length + 1) * 8 ≤ 140737488355328) := by show _ ≤ _; rw [List.length_map]; omega
                have QB := hide (below_step (unhide PT6).bl (alloc_below wr (.cells #[.int .i64 ((v : Nat) : Int)] 3))).size
                have g2 : ¬ (t : Int) < (t : Int) := by omega
                have g3 : (0 : Int) ≤ (m : Int) := by omega
                have g4 : (m : Int) < (t : Int) := by omega
                obtain ⟨m1, hm1⟩ : ∃ x, m + 1 = x := ⟨_, rfl⟩
                have g6 : IntKind.i64.wrap ((m : Int) + 1) = (m1 : Int) := by rw [IntKind.wrap_i64]; omega
                have hcap := ((unhide PT6).r).2
                have hcap5 : t ≤ cap5 := by
                  rcases hcap with ⟨h0, _⟩ | ⟨g', cap', cur, hv', _, _, hle', _⟩
                  · cases h0
                  · injection hv' with e1 e2 e3
                    subst e3
                    rw [List.length_map] at hle'
                    omega
                have g7 : m ≤ cap5 := by omega
                have g8 : m1 ≤ cap5 := by omega
                have g9 : m1 ≤ t := by omega
                have g10 : (0 : Int) ≤ (m1 : Int) := by omega
                have g11 : m ≤ t := by omega
                have HM1 := hide hm1
                have HMM := hide hmL
                have HLN := hide hlen'
                rw [hm]
                clear hm hmL hv cm hbt hcap hm1 hlen' hl1p hg5 ti3 hle PTW hj htl ht
                go_wp2_with (at_builtin; go_loud (refine wpList_append_lies _ rfl _ _ _ rfl w1.heap.size 3 ti (.int .i64 0) 1 8 Tryd.underlying23 (unhide HI) (unhide HZ) hz1 hz2 rfl (by decide) _ (out.map (fun x => ((x : Nat) : Int))).length ((out.map (fun x => ((x : Nat) : Int))).map (Value.int .i64 ·)) rfl (unhide O4) ⟨wr.heap.size, 0, none⟩ 1 1 [.int .i64 ((v : Nat) : Int)] rfl rfl (news_one wr v _) (one_int _) (by decide) (unhide Q63) (unhide Q8) (unhide QB) (wr.heap.size + 1) (alloc_size _ _) ?_; intro g7 cap7 w7 own7 grow7 hat7 hlt7; have PTO := hide ((unhide PT6).sym.push own7 grow7 hat7); clear own7 grow7 hat7 hlt7))
                (try simp only [List.length_map])
                clear O4 Q63 Q8 QB PT6 cm6
                have TT := (unhide PTO).sym
                have HTW := hide TT
                have hg5' : g5 < w7.heap.size := (World.ownsRow.lt TT.r g5 rfl).2
                obtain ⟨ad, had⟩ : ∃ ad : Addr, (if cap5 = m1 then some (⟨g5, 0, none⟩ : Addr) else some ⟨g5, m1, none⟩) = some ad := by split <;> exact ⟨_, rfl⟩
                have HADD : Hid (∀ W, OwnN W w1.heap.size (.slice (some ⟨g5, 0, none⟩) t cap5) on' → ∀ q u, (cI (on'.drop m1))[q]? = some u → W.cell? (ad.add q) = some u) := fun W hO q u hu => by
                  have hln := unhide HLN
                  by_cases hcm : cap5 = m1
                  · have : (cI (on'.drop m1)).length = 0 := by rw [cI_length, List.length_drop]; omega
                    have := (List.getElem?_eq_some_iff.1 hu).1
                    omega
                  · rw [if_neg hcm] at had
                    obtain rfl := (Option.some.inj had)
                    exact news_cI hO m1 q u hu
                have HNEW0 : Hid (∀ W, OwnN W w1.heap.size (.slice (some ⟨g5, 0, none⟩) t cap5) on' → ∀ q u, (cI (on'.take m))[q]? = some u → W.cell? ((⟨g5, 0, none⟩ : Addr).add q) = some u) := fun W hO q u hu => by
                  have hq : q < m := by
                    have := (List.getElem?_eq_some_iff.1 hu).1
                    rw [cI_length, List.length_take] at this
                    omega
                  refine news_cI hO 0 q u ?_
                  rw [List.drop_zero]
                  rw [cI_take, List.getElem?_take_of_lt hq] at hu
                  exact hu
                have HL0 : Hid ((cI (on'.take m)).length = m) := by show _ = _; have := unhide HLN; rw [cI_length, List.length_take]; omega
                have HL2 : Hid ((cI (on'.drop m1)).length = t - m1) := by show _ = _; have := unhide HLN; rw [cI_length, List.length_drop]; omega
                have HTT : Hid (∀ W, Below w7.heap.size w7 W → (fun _ : World => True) W) := fun _ _ => trivial
                clear TT PTO
                refine wp_region_hold (fun _ : World => True) (by kernel_rfl) ?_
                have bd0 : Below w7.heap.size w7 w7.drew := (Below.refl _ _).drew
                have hC0 : (fun _ : World => True) w7.drew := unhide HTT _ bd0
                refine wpHold_take (i := 1) (v := ?_) rfl (by kernel_rfl) (by kernel_rfl) (by kernel_rfl) (fun _ _ _ h => h) (Or.inl ⟨by rfl, ?_⟩) hC0 ?_
                rotate_left
                · intro w hSw; clear hSw; go_simp; (try with_reducible rfl)
                (try simp only [List.getElem_toArray, List.getElem_cons_succ, List.getElem_cons_zero])
                (try simp only [Act.put, List.setIfInBounds_toArray, List.set_cons_zero, List.set_cons_succ])
                refine wpHold_take (i := 2) (v := ?_) rfl (by kernel_rfl) (by kernel_rfl) (by kernel_rfl) (fun _ _ _ h => h) (Or.inl ⟨by rfl, ?_⟩) hC0 ?_
                rotate_left
                · intro w hSw; clear hSw; go_simp; (try with_reducible rfl)
                (try simp only [List.getElem_toArray, List.getElem_cons_succ, List.getElem_cons_zero])
                (try simp only [Act.put, List.setIfInBounds_toArray, List.set_cons_zero, List.set_cons_succ])
                refine wpHold_take (i := 3) (v := ?_) rfl (by kernel_rfl) (by kernel_rfl) (by kernel_rfl) (fun _ _ _ h => h) (Or.inl ⟨by rfl, ?_⟩) hC0 ?_
                rotate_left
                · intro w hSw; clear hSw; go_simp; (try with_reducible rfl)
                (try simp only [List.getElem_toArray, List.getElem_cons_succ, List.getElem_cons_zero])
                (try simp only [Act.put, List.setIfInBounds_toArray, List.set_cons_zero, List.set_cons_succ])
                refine wpHold_take (i := 5) (v := ?_) rfl (by kernel_rfl) (by kernel_rfl) (by kernel_rfl) (fun _ _ _ h => h) (Or.inl ⟨by rfl, ?_⟩) hC0 ?_
                rotate_left
                · intro w hSw; clear hSw; go_simp; (try with_reducible rfl)
                (try simp only [List.getElem_toArray, List.getElem_cons_succ, List.getElem_cons_zero])
                (try simp only [Act.put, List.setIfInBounds_toArray, List.set_cons_zero, List.set_cons_succ])
                refine wpHold_take (i := 6) (v := ?_) rfl (by kernel_rfl) (by kernel_rfl) (by kernel_rfl) (fun _ _ _ h => h) (Or.inl ⟨by rfl, ?_⟩) hC0 ?_
                rotate_left
                · intro w hSw; clear hSw; go_simp; (try with_reducible rfl)
                (try simp only [List.getElem_toArray, List.getElem_cons_succ, List.getElem_cons_zero])
                (try simp only [Act.put, List.setIfInBounds_toArray, List.set_cons_zero, List.set_cons_succ])
                refine wpHold_take (i := 7) (v := ?_) rfl (by kernel_rfl) (by kernel_rfl) (by kernel_rfl) (fun _ _ _ h => h) (Or.inl ⟨by rfl, ?_⟩) hC0 ?_
                rotate_left
                · intro w hSw; clear hSw; go_simp; (try with_reducible rfl)
                (try simp only [List.getElem_toArray, List.getElem_cons_succ, List.getElem_cons_zero])
                (try simp only [Act.put, List.setIfInBounds_toArray, List.set_cons_zero, List.set_cons_succ])
                refine wpHold_take (i := 8) (v := ?_) rfl (by kernel_rfl) (by kernel_rfl) (by kernel_rfl) (fun _ _ _ h => h) (Or.inl ⟨by rfl, ?_⟩) hC0 ?_
                rotate_left
                · intro w hSw; clear hSw; go_simp; (try with_reducible rfl)
                (try simp only [List.getElem_toArray, List.getElem_cons_succ, List.getElem_cons_zero])
                (try simp only [Act.put, List.setIfInBounds_toArray, List.set_cons_zero, List.set_cons_succ])
                refine wpHold_one (k := 0) (by kernel_rfl) rfl (fun K hK => ?_)
                (try simp only [List.getElem_toArray, List.getElem_cons_succ, List.getElem_cons_zero])
                go_simp
                refine hK.out _ _ trivial ?_
                clear hK K
                (try simp only [Act.put, List.setIfInBounds_toArray, List.set_cons_zero, List.set_cons_succ])
                have hsz7 : (w7.alloc (.cells #[] 3)).drew.heap.size = w7.heap.size + 1 := alloc_size w7 _
                have bA : Below w7.heap.size w7 (w7.alloc (.cells #[] 3)).drew := below_step (alloc_below _ _) (drew_below _)
                have T8 := (unhide HTW).keep bA
                have own0 : (w7.alloc (.cells #[] 3)).drew.ownsRow w1.heap.size 3 1 (.slice (some ⟨w7.heap.size, 0, none⟩) 0 0) 0 [] := World.ownsRow_made w7 #[] 0 (unhide HTW).bl.size (by unfold maxLen; decide) rfl
                obtain ⟨WA, hWA⟩ : ∃ W, (w7.alloc (.cells #[] 3)).drew = W := ⟨_, rfl⟩
                rw [hWA] at hsz7 bA T8 own0
                (try rw [hWA])
                refine wpHold_one (k := 4) (by kernel_rfl) rfl (fun K hK => ?_)
                refine step_app rfl _ _ rfl ti (unhide HI) (unhide HZ) hz1 hz2 w1.heap.size w7.heap.size 0 0 [] rfl own0 ⟨g5, 0, none⟩ m cap5 (cI (on'.take m)) rfl (unhide HL0) (unhide HNEW0 _ T8.r) (cI_one _) (by omega) T8.bl.size ?_
                intro g8 cap8 w8 own8 grow8 hat8
                have r8 := World.ownsRow.kept T8.r grow8 (Or.inr (by show some g5 ≠ some w7.heap.size; intro e; have := Option.some.inj e; omega))
                have hoB : ∀ q, (Value.slice (some ⟨g7, 0, none⟩) (out.length + 1) cap7).ownBlock = some q → q < w7.heap.size := fun q hq => (World.ownsRow.lt (unhide HTW).o q hq).2
                have hg7 : g7 < w7.heap.size := hoB g7 rfl
                have o8 := World.ownsRow.kept T8.o grow8 (Or.inr (by show some g7 ≠ some w7.heap.size; intro e; have := Option.some.inj e; omega))
                have b8 := Below.grown T8.bl grow8 T8.bl.size (fun q hq => by have := Option.some.inj hq; have := (unhide HTW).bl.size; omega)
                have hs8 := grow8.size
                refine hK.out _ _ trivial ?_
                clear hK K
                (try simp only [Act.put, List.setIfInBounds_toArray, List.set_cons_zero, List.set_cons_succ])
                refine wpHold_one (k := 9) (by kernel_rfl) rfl (fun K hK => ?_)
                refine step_app rfl _ _ rfl ti (unhide HI) (unhide HZ) hz1 hz2 w1.heap.size g8 (0 + m) cap8 _ rfl own8 ad (t - m1) (cap5 - m1) (cI (on'.drop m1)) rfl (unhide HL2) (unhide HADD _ r8) (cI_one _) (by omega) b8.size ?_
                intro g9 cap9 w9 own9 grow9 hat9
                have o9 := World.ownsRow.kept o8 grow9 (Or.inr (by show some g7 ≠ some g8; intro e; have := Option.some.inj e; omega))
                have b9 := Below.grown b8 grow9 b8.size (fun q hq => by have := Option.some.inj hq; have := (unhide HTW).bl.size; omega)
                have HFT : Hid (Two w1 w9 (.slice (some ⟨g9, 0, none⟩) (0 + m + (t - m1)) cap9) (.slice (some ⟨g7, 0, none⟩) (out.length + 1) cap7) (on'.eraseIdx m) (out ++ [v])) := by
                  refine ⟨?_, o9, fun q hq hq2 => ?_, b9⟩
                  · have hln := unhide HLN
                    have hm1 := unhide HM1
                    have hmm := unhide HMM
                    have hel : (on'.eraseIdx m).length = 0 + m + (t - m1) := by rw [List.length_eraseIdx, if_pos (by omega)]; omega
                    unfold OwnN OwnL
                    rw [List.length_map, hel]
                    have ec : (on'.eraseIdx m).map (fun x => ((x : Nat) : Int)) = (on'.take m ++ on'.drop m1).map (fun x => ((x : Nat) : Int)) := by rw [List.eraseIdx_eq_take_drop_succ, hm1]
                    rw [ec]
                    have e9 := own9
                    rw [List.nil_append, ← cI_append] at e9
                    exact e9
                  · have hq' : g9 = q := Option.some.inj hq
                    have hq2' : g7 = q := Option.some.inj hq2
                    omega
                refine hK.out _ _ trivial ?_
                clear hK K
                (try simp only [Act.put, List.setIfInBounds_toArray, List.set_cons_zero, List.set_cons_succ])
                refine wpHold_one (k := 10) (by kernel_rfl) rfl (fun K hK => ?_)
                (try simp only [List.getElem_toArray, List.getElem_cons_succ, List.getElem_cons_zero])
                go_simp
                refine hK.out _ _ trivial ?_
                clear hK K
                (try simp only [Act.put, List.setIfInBounds_toArray, List.set_cons_zero, List.set_cons_succ])
                refine wpHold_done (by kernel_rfl) ?_ _
                clear own0 own8 own9 grow8 grow9 T8 r8 o8 o9 b8 b9 bA hat8 hat9 had HTT
                go_wp2_with fail
                refine ⟨⟨k + 1, by go_num, hlt, ?_⟩, by simp [intOf]; omega⟩
                rw [unhide HSN, unhide HST]
                have h := unhide HFT
                rw [Nat.zero_add] at h
                exact h
    · obtain rfl : k = n := by omega
      have e1 : ¬ (k : Int) < (k : Int) := by omega
      have hqt : q.take k = q := List.take_of_length_le (by omega)
      rw [hqt] at hTw
      have hm0 := mfold_len f q ([], [])
      have hlen : (mfold f q).1.length + (mfold f q).2.length = k := by
        have : (mfold f q).1.length + (mfold f q).2.length = 0 + 0 + q.length := hm0
        omega
      have hmr : mrow f q = (mfold f q).1 ++ (mfold f q).2 := rfl
      obtain ⟨L, hL⟩ : ∃ L, mrow f q = L := ⟨_, rfl⟩
      obtain ⟨on, hon⟩ : ∃ x, (mfold f q).1 = x := ⟨_, rfl⟩
      obtain ⟨out, hout⟩ : ∃ x, (mfold f q).2 = x := ⟨_, rfl⟩
      rw [hon, hout] at hTw hlen
      rw [hL, hon, hout] at hmr
      have HLL := hide hL
      have hTr := hTw.r
      have hTo := hTw.o
      obtain ⟨ao, co, rfl, hio⟩ := hTw.o.irow
      obtain ⟨ar, cr, rfl, hir⟩ := hTw.r.irow
      have HBT := hide (below_step (unhide HB) hTw.bl)
      have HBL := hide hTw.bl
      have HMR := hide hmr
      have HLE := hide hlen
      have HTR := hide hTr
      by_cases ho : out.length = 0
      · have HLO : Hid (L = on) := by show L = on; rw [hmr, List.eq_nil_of_length_eq_zero ho, List.append_nil]
        rw [ho]
        rcases hTr.2 with ⟨hv, h0⟩ | ⟨g5, cap, cur, hv, hgB, hgg, hle1, _⟩
        · rw [hv] at HTR
          rw [hv]
          clear hTw hTr hTo hio hir hlen hmr hL hon hout h0 ho hk hv hm0 hqt hql
          go_wp2_with (at_builtin; go_loud (refine wpList_append_none0 _ rfl _ _ _ rfl 3 ti Tryd.underlying23 (unhide HI) rfl _ _ rfl ?_))
          go_ret
          exact ⟨_, L, q, rfl, by rw [unhide HLO]; exact (unhide HTR).base (unhide HB).size, unhide HPM, unhide HPW, (unhide HLL).symm, unhide HBT⟩
        · rw [hv] at HTR
          rw [hv]
          clear hTw hTr hTo hio hir hlen hmr hL hon hout ho hk hgg hgB hv hm0 hqt hql
          rw [List.length_map] at hle1
          (try rw [List.length_map])
          rw [List.length_map] at HTR
          go_wp2_with (at_builtin; go_loud (refine wpList_append_none _ rfl _ _ _ rfl 3 ti Tryd.underlying23 (unhide HI) _ _ _ hle1 rfl _ _ rfl ?_))
          go_ret
          exact ⟨_, L, q, rfl, by rw [unhide HLO]; exact (unhide HTR).base (unhide HB).size, unhide HPM, unhide HPW, (unhide HLL).symm, unhide HBT⟩
      · rcases hTo.2 with ⟨hv, h0⟩ | ⟨g5, cap, cur, hv, hgB, hgg, hle1, _⟩
        · rw [List.length_map] at h0; exact absurd h0 ho
        · injection hv with e2 e3 e4
          subst e2 e4
          clear e3
          have NEW := hide (news_own hTo)
          have OR := hide hTr
          have QB := hide hTw.bl.size
          have QL : Hid (((out.map (fun x => ((x : Nat) : Int))).map (Value.int .i64 ·)).length = out.length * 1) := by show _ = _; simp
          have Q63 : Hid ((on.map (fun x => ((x : Nat) : Int))).length + out.length ≤ maxLen) := by show _ ≤ _; rw [List.length_map]; unfold maxLen; omega
          have Q8 : Hid (((on.map (fun x => ((x : Nat) : Int))).length + out.length) * 8 ≤ 140737488355328) := by show _ ≤ _; rw [List.length_map]; omega
          have QP : Hid (0 < out.length) := by show 0 < out.length; omega
          have QR : Hid (∀ k, (Value.slice ar on.length cr).ownBlock = some k → w1.heap.size ≤ k) := fun k hk => OwnL.row hTr k hk
          clear hTw hTr hTo hio hir hlen hmr hL hon hout ho hk hgg hgB hle1 hm0 hqt hql
          go_wp2_with (at_builtin; go_loud (refine wpList_append_lies _ rfl _ _ _ rfl w1.heap.size 3 ti (.int .i64 0) 1 8 Tryd.underlying23 (unhide HI) (unhide HZ) hz1 hz2 rfl (by decide) _ (on.map (fun x => ((x : Nat) : Int))).length ((on.map (fun x => ((x : Nat) : Int))).map (Value.int .i64 ·)) rfl (unhide OR) ⟨g5, 0, none⟩ out.length _ ((out.map (fun x => ((x : Nat) : Int))).map (Value.int .i64 ·)) rfl (unhide QL) (unhide NEW) (one_ints _) (unhide QP) (unhide Q63) (unhide Q8) (unhide QB) wr.heap.size rfl ?_; intro g7 cap7 w7 own7 grow7 hat7 hlt7; have HO7 := hide own7; have HB7 := hide (Below.grown (unhide HBL) grow7 (unhide QB) (unhide QR)); clear own7 grow7 hat7 hlt7))
          go_ret
          have hL7 : OwnN w7 w1.heap.size (.slice (some ⟨g7, 0, none⟩) ((on.map (fun x => ((x : Nat) : Int))).length + out.length) cap7) L := by
            unfold OwnN
            rw [unhide HMR, List.map_append]
            unfold OwnL
            have eo : (out.map (fun x => ((x : Nat) : Int))).length = out.length := List.length_map _
            rw [List.map_append, List.length_append, eo]
            exact unhide HO7
          rw [List.length_map] at hL7
          exact ⟨_, L, q, rfl, hL7.base (unhide HB).size, unhide HPM, unhide HPW, (unhide HLL).symm, below_step (unhide HB) (unhide HB7)⟩
end Go.Proofs.YtmpigipeajdgcaaDoor
