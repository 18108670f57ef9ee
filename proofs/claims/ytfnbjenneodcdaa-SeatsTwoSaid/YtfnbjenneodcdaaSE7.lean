/- seats: Worth, Keep. -/
import Derived.Test.YtfnbjenneodcdaaSE6
namespace Go.Proofs.Ytfnbjenneodcdaa
open Go.RowKit Go.Sort Go.Shelf

def zI1 : Array Value := #[.int .i64 0]
theorem zeroI1_notU (n : Nat) : ∀ u ∈ Builtin.zeroCells zI1 n, Go.Proofs.Ytfnbjenneodcdaa.notU u := by
  intro u hu
  obtain ⟨i, _, rfl⟩ := Array.mem_map.1 hu
  have : i % zI1.size < 1 := Nat.mod_lt _ (by decide)
  generalize i % zI1.size = j at *
  match j, this with
  | 0, _ => trivial
/-- append of some fractions (cells that are no words). -/
theorem append_unwordI {P : Program} {w w' : World} {t ty e : TypeId} {i : TypeInfo} {bytes base : Nat} (ht : P.underlying t = some (.slice e)) (hi : P.info? e = some i) (hz : i.zero = some (.int .i64 0)) (hsize : i.size = 1) (hby : i.bytes = bytes)
    {v : Value} {n : Nat} {xs : List Value} (hown : w.ownsRow base e 1 v n xs) (hno : ∀ g, v.ownBlock = some g → Unword w g)
    {ad : Addr} {m c : Nat} {news : List Value} (hl : news.length = m * 1) (hnews : ∀ j u, news[j]? = some u → w.cell? (ad.add j) = some u) (h1 : ∀ u ∈ news, u.oneCell' = true) (h1w : ∀ u ∈ news, Go.Proofs.Ytfnbjenneodcdaa.notU u)
    (hm : 0 < m) (h63 : n + m ≤ maxLen) (hbytes : (n + m) * bytes ≤ 140737488355328) {g cap : Nat}
    (hr : (Builtin.append_ #[t, t] ty #[v, .slice (some ad) m c]).run P w = .ok (.slice (some ⟨g, 0, none⟩) (n + m) cap) w') : Unword w' g := by
  have hmx : n + m ≤ 9223372036854775807 := h63
  subst hby
  have hzc : (Value.int .i64 0).cells = zI1 := by simp [Value.cells, zI1]
  have inj : ∀ {v1 v2 : Value} {w1 w2 : World}, (Result.ok v1 w1 : Result Value) = .ok v2 w2 → v1 = v2 ∧ w1 = w2 := fun h => by cases h; exact ⟨rfl, rfl⟩
  rcases hown.2 with ⟨rfl, rfl⟩ | ⟨g', cap', cur, rfl, hbg, hg, hnc, hcm, hcs, htake⟩
  · have hq := run_append_nil (P := P) w t ty e i _ ht hi hz ad m c news (by rw [hsize]; exact hl) hnews (by omega) (by omega) (by have hb := hbytes; simp only [Nat.zero_add] at hb; omega)
    rw [hq] at hr
    obtain ⟨ev, rfl⟩ := inj hr
    have eg : w.heap.size = g := by injection ev with e1; injection e1 with e1; injection e1
    subst eg
    refine unword_of (heap_alloc_new w.drew _) fun u hu => ?_
    rcases Array.mem_append.1 hu with hu | hu
    · exact h1w u (by simpa using hu)
    · rw [hzc] at hu; exact zeroI1_notU _ u hu
  · have hcur := Unword.owned hg (hno g' rfl)
    by_cases hroom : n + m ≤ cap'
    · have hfit : n * i.size + news.length ≤ cur.size := by rw [hl, hcs, hsize, ← Nat.add_mul]; exact Nat.mul_le_mul_right _ hroom
      have hq := run_append_room (P := P) w t ty e i ht hi g' n cap' cur hg ad m c news (by rw [hsize]; exact hl) hnews h1 hroom hfit
      rw [hq] at hr
      obtain ⟨ev, rfl⟩ := inj hr
      have eg : g' = g := by injection ev with e1; injection e1 with e1; injection e1
      subst eg
      refine unword_of (setRow_heap w _ cur _ e _ hg) fun u hu => ?_
      have hu : u ∈ cur.toList.take (n * i.size) ++ news ++ cur.toList.drop (n * i.size + news.length) := by simpa using hu
      rcases List.mem_append.1 hu with hu | hu
      · rcases List.mem_append.1 hu with hu | hu
        · exact hcur u (by simpa using List.mem_of_mem_take hu)
        · exact h1w u hu
      · exact hcur u (by simpa using List.mem_of_mem_drop hu)
    · have holds : ∀ j u, xs[j]? = some u → w.cell? ((⟨g', 0, none⟩ : Addr).add j) = some u := hown.cells (g := g') rfl
      have hq := run_append_grow (P := P) w t ty e i _ ht hi hz ⟨g', 0, none⟩ n cap' xs (by rw [hsize]; exact hown.1) holds ad m c news (by rw [hsize]; exact hl) hnews (by omega) (by omega) (growslice_fits (by omega) hbytes)
      rw [hq] at hr
      obtain ⟨ev, rfl⟩ := inj hr
      have eg : w.heap.size = g := by injection ev with e1; injection e1 with e1; injection e1
      subst eg
      refine unword_of (heap_alloc_new w.drew _) fun u hu => ?_
      rcases Array.mem_append.1 hu with hu | hu
      · rcases Array.mem_append.1 hu with hu | hu
        · refine hcur u ?_
          have hx : u ∈ xs := by simpa using hu
          rw [← htake] at hx
          simpa using List.mem_of_mem_take hx
        · exact h1w u (by simpa using hu)
      · rw [hzc] at hu; exact zeroI1_notU _ u hu

theorem wpList_append_int {P : Program} (w : World) {ops : Array Oper} {rest : List Oper} {o : Oper} {a : Act} {Q : Exit → Act → World → Prop} (hgd : o.guard = none) (s x : Operand) (t : TypeId)
    (ho : o.op = .call { callee := .builtin .append, args := #[s, x], argTypes := #[t, t] })
    (base : Nat) (e : TypeId) (i : TypeInfo) (bytes : Nat) (ht : P.underlying t = some (.slice e)) (hi : P.info? e = some i) (hz : i.zero = some (.int .i64 0))
    (hsize : i.size = 1) (hby : i.bytes = bytes)
    (v : Value) (n : Nat) (xs : List Value) (hs : a.eval s = v) (hown : w.ownsRow base e 1 v n xs) (hno : ∀ g, v.ownBlock = some g → Unword w g)
    (ad : Addr) (m c : Nat) (news : List Value) (hx : a.eval x = .slice (some ad) m c) (hl : news.length = m * 1) (hnews : ∀ j u, news[j]? = some u → w.cell? (ad.add j) = some u) (h1 : ∀ u ∈ news, u.oneCell' = true) (h1w : ∀ u ∈ news, Go.Proofs.Ytfnbjenneodcdaa.notU u)
    (hm : 0 < m) (h63 : n + m ≤ maxLen) (hbytes : (n + m) * bytes ≤ 140737488355328) (hbase : base ≤ w.heap.size) (H : Nat) (hH : w.heap.size = H)
    (h : ∀ g cap w', w'.ownsRow base e 1 (.slice (some ⟨g, 0, none⟩) (n + m) cap) (n + m) (xs ++ news) → w.grownBy w' v.ownBlock → (v.ownBlock = some g ∨ g = H) → g < w'.heap.size → Unword w' g → wpList P ops Q rest (a.put o.dst (.slice (some ⟨g, 0, none⟩) (n + m) cap)) w') : wpList P ops Q (o :: rest) a w := by
  refine wpList_plain hgd fun K hK => ?_
  obtain ⟨g, cap, w', hr, h2, h3, h4, h5⟩ := run_append_lies (P := P) w t o.type base e i _ 1 bytes ht hi hz hsize hby (by decide) (by omega) v n xs hown ad m c news hl hnews h1 hm h63 hbytes hbase H hH
  have h6 := append_unwordI ht hi hz hsize hby hown hno hl hnews h1 h1w hm h63 hbytes hr
  unfold Oper.wp execOp
  simp only [ho, resolve, invoke, builtin, Sem.run_bind, Sem.run_pure, Result.andThen_ok, List.map_toArray, List.map_cons, List.map_nil, hs, hx, hr]
  exact hK _ _ (h g cap w' h2 h3 h4 h5 h6)

theorem Try.infoI : (Try.prog.info? 3).map (fun i => (i.zero, i.size, i.bytes)) = some (some (.int .i64 0), 1, 8) := by kernel_rfl
def lrow (lf : Nat → Int) (n : Nat) : List Value := (List.range n).map fun j => .int .i64 (lf j)
theorem lrow_length (lf : Nat → Int) (n : Nat) : (lrow lf n).length = n := by simp [lrow]
theorem lrow_get (lf : Nat → Int) {n j : Nat} (h : j < n) : (lrow lf n)[j]? = some (.int .i64 (lf j)) := by simp [lrow, h]
theorem lrow_push (f : Nat → Int) (n : Nat) : lrow f n ++ [.int .i64 (f n)] = lrow f (n + 1) := by
  unfold lrow
  rw [List.range_succ, List.map_append]
  rfl
theorem own_int {w : World} {B : Nat} {v : Value} {n : Nat} {xs : List Value} (h : w.ownsRow B 3 1 v n xs) : ∀ k, v.ownBlock = some k → B ≤ k ∧ k < w.heap.size := by
  intro k hk
  obtain ⟨h1, ⟨rfl, _⟩ | ⟨g, cap, cur, rfl, hb, hh, hr⟩⟩ := h
  · cases hk
  · have : g = k := Option.some.inj hk
    subst this
    exact ⟨hb, (Array.getElem?_eq_some_iff.1 hh).1⟩
/-- A row of ints of the call's own that grows. -/
structure OutI (w wr : World) (v : Value) (n : Nat) (f : Nat → Int) : Prop where
  own : wr.ownsRow w.heap.size 3 1 v n (lrow f n)
  no : ∀ g, v.ownBlock = some g → Unword wr g
  bl : Below w.heap.size w wr
theorem OutI.start (w wr : World) (f : Nat → Int) (hb : Below w.heap.size w wr) : OutI w wr (.slice none 0 0) 0 f := ⟨World.ownsRow_nil _ _ _ _, fun g hg => absurd (show (none : Option Nat) = some g from hg) (by simp), hb⟩
theorem OutI.keep {w wr w' : World} {v : Value} {n : Nat} {f : Nat → Int} (h : OutI w wr v n f) (hb : Below wr.heap.size wr w') : OutI w w' v n f := by
  refine ⟨⟨h.own.1, ?_⟩, fun g hg => (h.no g hg).below (own_int h.own g hg).2 hb, below_step h.bl hb⟩
  rcases h.own.2 with h2 | ⟨g, cap, cur, hv, hbg, hh, hr⟩
  · exact Or.inl h2
  · exact Or.inr ⟨g, cap, cur, hv, hbg, by rw [hb.block g (Array.getElem?_eq_some_iff.1 hh).1]; exact hh, hr⟩
theorem OutI.push {w wr w' : World} {g cap n : Nat} {v : Value} {f : Nat → Int} (h : OutI w wr v n f) (own : w'.ownsRow w.heap.size 3 1 (.slice (some ⟨g, 0, none⟩) (n + 1) cap) (n + 1) (lrow f n ++ [.int .i64 (f n)])) (hg : wr.grownBy w' v.ownBlock) (hn : Unword w' g) : OutI w w' (.slice (some ⟨g, 0, none⟩) (n + 1) cap) (n + 1) f := by
  refine ⟨by rw [← lrow_push]; exact own, fun k hk => ?_, Below.grown h.bl hg h.bl.size (fun k hk => (own_int h.own k hk).1)⟩
  have : g = k := Option.some.inj hk
  rw [← this]; exact hn
theorem OutI.row {w wr : World} {v : Value} {n : Nat} {f : Nat → Int} (h : OutI w wr v n f) : NRow wr v n f := by
  rcases h.own.2 with ⟨rfl, h1⟩ | ⟨g', cap', cur, rfl, hbg, hh, hc1, hc2, hs, ht⟩
  · subst h1
    exact ⟨none, 0, rfl, Nat.le_refl _, by decide, fun h => absurd h (Nat.lt_irrefl _)⟩
  · refine ⟨_, _, rfl, hc1, by unfold maxLen at hc2; exact hc2, fun _ => ⟨g', 0, rfl, (Array.getElem?_eq_some_iff.1 hh).1, fun j hj => ?_⟩⟩
    simp only [World.cell?, hh, Nat.zero_add]
    have e : (cur.toList.take (n * 1))[j]? = (lrow f n)[j]? := by rw [ht]
    rw [List.getElem?_take_of_lt (by omega), lrow_get f hj] at e
    simpa using e
/-- A row of fractions is kept where a row of ints grows. -/
theorem OutI.law {w wr w' : World} {v : Value} {n g : Nat} {f : Nat → Int} {m c : Nat} {qs : List Rat} (h : OutI w wr v n f) (hl : LawIs wr (Sl.val (some ⟨g, 0, none⟩, m, c)) qs) (hne : v.ownBlock ≠ some g) (hg : wr.grownBy w' v.ownBlock) : LawIs w' (Sl.val (some ⟨g, 0, none⟩, m, c)) qs :=
  hl.farU hg h.no (fun _ ad e => by
    have e : some (⟨g, 0, none⟩ : Addr) = some ad := e
    injection e with e
    rw [← e]; exact hne)

/-- One class: how many are kept from it, and what it brings. -/
theorem kept_one {ks : List (Int × List Rat)} (g : GoodF ks) {i : Nat} (hi : i < ks.length) (l : Sl) (a : Option Addr) (c M J : Nat) (V : Nat → Rat) (w : World) (h : LawIs w (Sl.val (a, M, c)) (row V M)) (hM1 : 1 ≤ M) (hM : M ≤ 100) (rV : ∀ i, i < M → RS (V i) J) (hJ1 : 1 ≤ J) (hJ : J ≤ 1000000) :
    Calls Try.prog 11 #[.agg #[.int .i64 (ks[i]!).1, .slice l.a (ks[i]!).2.length l.c], .slice a M c] w fun e w' => e = .returned (.int .i64 ((Sea.kp V (pF ks i) (M - 1) : Nat) : Int)) ∧ Below w.heap.size w w' :=
  kept_any (ks[i]!).1 l.a l.c _ a c M J V w h hM1 hM (g.p1 i hi) (g.p2 i hi) rV hJ1 (by omega)
theorem sold_one {ks : List (Int × List Rat)} (g : GoodF ks) (sm : SmF ks) {i : Nat} (hi : i < ks.length) (l : Sl) (a : Option Addr) (c M k J : Nat) (V : Nat → Rat) (w : World) (hl : LawIs w l.val (ks[i]!).2) (h : LawIs w (Sl.val (a, M, c)) (row V M)) (hM1 : 1 ≤ M) (hM : M ≤ 100) (hk : k ≤ 1000) (rV : ∀ i, i < M → RS (V i) J) (hJ : J ≤ 1000000) :
    Calls Try.prog 10 #[.agg #[.int .i64 (ks[i]!).1, .slice l.a (ks[i]!).2.length l.c], .slice a M c, .int .i64 (k : Int)] w (RowPost w (row (Sea.sd (pF ks i) (aF ks i) (kF ks i) V k) M)) :=
  sold_any (ks[i]!).1 l.a l.c (ks[i]!).2 a c M k (ks[i]!).2.length J V w (by have e := law_len hl; rw [show Sl.val (l.a, (ks[i]!).2.length, l.c) = l.val from by show Value.slice _ _ _ = Value.slice _ _ _; rw [e]]; exact hl) rfl (sm.k i hi) (fun j hj => sm.r i j hi hj) h hM1 hM hk (g.p1 i hi) (g.p2 i hi) rV hJ
theorem zero_row (M : Nat) : List.replicate M (0 : Rat) = row (fun _ => 0) M := by
  rw [fill_zero (fun _ => (0 : Rat)) M]
  apply List.ext_getElem?
  intro i
  unfold row fill
  by_cases h : i < M <;> simp [h]
/-- What Worth tells. -/
def WorthPost (w : World) (M : Nat) (V : Nat → Rat) (e : Ending) (w' : World) : Prop := ∃ gb, e = .returned (.tuple #[.slice (some ⟨gb, 0, none⟩) M M, .nilIface]) ∧ LawIs w' (Sl.val (some ⟨gb, 0, none⟩, M, M)) (row V M) ∧ Below w.heap.size w w'

/-- What Keep tells. -/
def KeepPost (w : World) (ks : List (Int × List Rat)) (s : Nat) (e : Ending) (w' : World) : Prop :=
  (fcode ks ≠ 0 ∧ ∃ k, e = .returned (.tuple #[.slice none 0 0, .iface 52 (.int .i64 k)]) ∧ Below w.heap.size w w') ∨
  (fcode ks = 0 ∧ ∃ v, e = .returned (.tuple #[v, .nilIface]) ∧ NRow w' v (ks.length - 1) (fun j => ((Sea.kpo (pF ks) (aF ks) (kF ks) s (j + 1) : Nat) : Int)) ∧ Below w.heap.size w w')
set_option maxHeartbeats 16000000 in
set_option maxRecDepth 100000 in
set_option linter.unusedSimpArgs false in
theorem keep_any (v : Value) (ks : List (Int × List Rat)) (s : Nat) (w : World) (h : FaresAre w v ks) (sm : SmF ks) (hs : s ≤ 60) :
    Calls Try.prog 5 #[v, .int .i64 (s : Int)] w (KeepPost w ks s) := by
  have HCH := hide (fseats_any v ks s w h sm hs)
  obtain ⟨a, c, rfl, h1, h2, h3⟩ := id h
  clear h3
  obtain ⟨n, hn⟩ : ∃ n, ks.length = n := ⟨_, rfl⟩
  have HN := hide hn
  rw [hn] at h h1 HCH ⊢
  have HF := hide h
  have HSM := hide sm
  obtain ⟨M, hM⟩ : ∃ M, s + 1 = M := ⟨_, rfl⟩
  have hwM : IntKind.i64.wrap ((s : Int) + 1) = (M : Int) := by rw [IntKind.wrap_i64]; omega
  have HM1 : Hid (1 ≤ M ∧ M ≤ 100 ∧ M - 1 = s) := by show _ ∧ _ ∧ _; omega
  obtain ⟨z, hz⟩ : ∃ z, fcode ks = z := ⟨_, rfl⟩
  rw [hz] at HCH
  have HZ := hide hz
  clear h hn sm hM hz
  go_enter Try.func5, Try.ntmps5
  go_wp2_with fail
  refine (unhide HCH).mono ?_
  rintro e w1 ⟨rfl, hb1⟩
  have HB := hide hb1
  clear HCH hb1
  by_cases hz0 : z = 0
  rotate_left
  · have e5 : errV z = .iface 52 (.int .i64 z) := by unfold errV; rw [if_neg hz0]
    rw [e5]
    have HNZ := hide hz0
    clear hz0 e5
    go_wp2
    go_ret2
    exact Or.inl ⟨fun h => unhide HNZ ((unhide HZ).symm.trans h), z, rfl, unhide HB⟩
  subst hz0
  have e5 : errV 0 = .nilIface := rfl
  rw [e5]
  have HGF := hide (goodF_of (unhide HZ))
  have HRV : Hid (∀ i, i ≤ n → ∀ j, j < M → RS (Sea.wo (pF ks) (aF ks) (kF ks) s i j) (wz i)) := fun i hi j hj => wo_RS (unhide HSM) (unhide HGF) s i (by rw [unhide HN]; exact hi) j (by have := unhide HM1; omega)
  have HWZ : Hid (∀ i, i ≤ n → 1 ≤ wz i ∧ wz i ≤ 1000000) := fun i hi => ⟨by cases i with
    | zero => exact Nat.le_refl _
    | succ i => unfold wz; omega, by have := wz_le (i := i) (by have := (unhide HSM).n; have := unhide HN; omega); omega⟩
  have hn1 : 1 ≤ n := by rw [← unhide HN]; exact (unhide HGF).n1
  obtain ⟨m, hm⟩ : ∃ m, n - 1 = m := ⟨_, rfl⟩
  have hwn : IntKind.i64.wrap ((n : Int) - 1) = (m : Int) := by rw [IntKind.wrap_i64]; omega
  have HMN0 := hide hm
  have HMM : Hid (m + 1 = n ∧ n ≤ 4) := by show _ ∧ _; have := unhide HN; have := (unhide HSM).n; omega
  have hmn1 : m < n := by have := unhide HMM; omega
  have hmn2 : n ≤ 4 := (unhide HMM).2
  clear hm hn1
  have qm := make_ratios (M : Int) (by omega) (by have := unhide HM1; omega) w1
  rw [Int.toNat_natCast] at qm
  have S0 := SumsAt.start w1 w1 M (Below.refl _ _)
  obtain ⟨W1, hW1⟩ : ∃ W, w1.alloc (.cells (tcells (List.replicate M zTri)).toArray 48) = W := ⟨_, rfl⟩
  obtain ⟨G, hG⟩ : ∃ G, w1.heap.size = G := ⟨_, rfl⟩
  rw [hW1] at qm S0
  rw [hG] at qm S0
  have L0 := S0.law (by rw [List.length_replicate]; have := unhide HM1; omega)
  rw [List.length_replicate, zero_row] at L0
  have HL0 : Hid (LawIs W1 (Sl.val (some ⟨G, 0, none⟩, M, M)) (row (Sea.wo (pF ks) (aF ks) (kF ks) s 0) M)) := L0
  have HB1 := hide (below_step (unhide HB) S0.bl)
  clear S0 L0
  have HO0 := hide (OutI.start w W1 (fun j => ((Sea.kpo (pF ks) (aF ks) (kF ks) s (j + 1) : Nat) : Int)) (unhide HB1))
  clear e5
  go_wp2_with fail
  clear qm hW1 hG hwM hwn
  go_loopw [7, 8, 22] (fun v7 v8 vi wr => ∃ (i gv : Nat), v8 = .slice (some ⟨gv, 0, none⟩) M M ∧ vi = .int .i64 (i : Int) ∧ i ≤ m ∧ v7.ownBlock ≠ some gv ∧ LawIs wr (Sl.val (some ⟨gv, 0, none⟩, M, M)) (row (Sea.wo (pF ks) (aF ks) (kF ks) s i) M) ∧ OutI w wr v7 i (fun j => ((Sea.kpo (pF ks) (aF ks) (kF ks) s (j + 1) : Nat) : Int))) (fun _ _ vi _ => m - (intOf vi).toNat)
  case atStart => exact ⟨0, G, rfl, rfl, Nat.zero_le _, by simp [Value.ownBlock], unhide HL0, unhide HO0⟩
  case round =>
    obtain ⟨i, gv, rfl, rfl, hi, hne, hlw, T⟩ := hrel
    clear HL0 HB1 HO0
    have hb := T.bl
    have HLW := hide hlw
    have HT := hide T
    by_cases hlt : i < m
    · have f1 : (i : Int) < (m : Int) := by omega
      have f0 : (0 : Int) ≤ (i : Int) := by omega
      have f2 : (i : Int) < (n : Int) := by omega
      obtain ⟨b_, o_, l, ea, hbk, k0, k1, hL⟩ := ((unhide HF).below hb).at (j := i) (by rw [unhide HN]; omega)
      subst ea
      have HKA := hide (fun W (hW : Below wr.heap.size wr W) (l' : LawIs W (Sl.val (some ⟨gv, 0, none⟩, M, M)) (row (Sea.wo (pF ks) (aF ks) (kF ks) s i) M)) => kept_one (unhide HGF) (i := i) (by rw [unhide HN]; omega) l (some ⟨gv, 0, none⟩) M M (wz i) (Sea.wo (pF ks) (aF ks) (kF ks) s i) W l' (unhide HM1).1 (unhide HM1).2.1 (unhide HRV i (by omega)) (unhide HWZ i (by omega)).1 (unhide HWZ i (by omega)).2)
      have HSA := hide (fun k (hk : k ≤ 1000) W (hW : Below wr.heap.size wr W) (l' : LawIs W (Sl.val (some ⟨gv, 0, none⟩, M, M)) (row (Sea.wo (pF ks) (aF ks) (kF ks) s i) M)) => sold_one (unhide HGF) (unhide HSM) (i := i) (by rw [unhide HN]; omega) l (some ⟨gv, 0, none⟩) M M k (wz i) (Sea.wo (pF ks) (aF ks) (kF ks) s i) W (hL.below hW) l' (unhide HM1).1 (unhide HM1).2.1 hk (unhide HRV i (by omega)) (unhide HWZ i (by omega)).2)
      obtain ⟨p, hp⟩ : ∃ p, (ks[i]!).1 = p := ⟨_, rfl⟩
      obtain ⟨ln, hln⟩ : ∃ x, (ks[i]!).2.length = x := ⟨_, rfl⟩
      rw [hp] at k0 HKA HSA
      rw [hln] at k1 HKA HSA
      have HCC : Hid (∀ W, Below wr.heap.size wr W → (fun w' : World => w'.cell? ⟨b_, o_ + i * 2, none⟩ = some (.int .i64 p) ∧ w'.cell? ⟨b_, o_ + i * 2 + 1, none⟩ = some (.slice l.a ln l.c)) W) := fun W hW => ⟨by rw [hW.cell (p := ⟨b_, o_ + i * 2, none⟩) hbk]; exact k0, by rw [hW.cell (p := ⟨b_, o_ + i * 2 + 1, none⟩) hbk]; exact k1⟩
      obtain ⟨kk, hkk⟩ : ∃ k, Sea.kp (Sea.wo (pF ks) (aF ks) (kF ks) s i) (pF ks i) (M - 1) = k := ⟨_, rfl⟩
      have hkk2 : kk ≤ 1000 := by rw [← hkk]; have := Sea.kp_le (Sea.wo (pF ks) (aF ks) (kF ks) s i) (pF ks i) (M - 1); have := unhide HM1; omega
      rw [hkk] at HKA
      have HKE := hide (fun W (hW : Below wr.heap.size wr W) => unhide HKA W hW (hlw.below hW))
      have HSO := hide (fun W (hW : Below wr.heap.size wr W) => unhide HSA kk hkk2 W hW (hlw.below hW))
      have HWO : Hid (Sea.sd (pF ks i) (aF ks i) (kF ks i) (Sea.wo (pF ks) (aF ks) (kF ks) s i) kk = Sea.wo (pF ks) (aF ks) (kF ks) s (i + 1)) := by
        show _ = _
        rw [← hkk, (unhide HM1).2.2]; rfl
      obtain ⟨i1, hi1⟩ : ∃ i1, i + 1 = i1 := ⟨_, rfl⟩
      have hw1 : IntKind.i64.wrap ((i : Int) + 1) = (i1 : Int) := by rw [IntKind.wrap_i64]; omega
      obtain ⟨b2_, o2_, l2, ea2, hbk2, q0, q1, _⟩ := ((unhide HF).below hb).at (j := i1) (by rw [unhide HN]; omega)
      injection ea2 with ea2
      injection ea2 with eb2 eo2
      subst eb2 eo2
      have HKB := hide (fun W (gv : Nat) (l' : LawIs W (Sl.val (some ⟨gv, 0, none⟩, M, M)) (row (Sea.wo (pF ks) (aF ks) (kF ks) s i1) M)) => kept_one (unhide HGF) (i := i1) (by rw [unhide HN]; omega) l2 (some ⟨gv, 0, none⟩) M M (wz i1) (Sea.wo (pF ks) (aF ks) (kF ks) s i1) W l' (unhide HM1).1 (unhide HM1).2.1 (unhide HRV i1 (by omega)) (unhide HWZ i1 (by omega)).1 (unhide HWZ i1 (by omega)).2)
      obtain ⟨p2, hp2⟩ : ∃ p, (ks[i1]!).1 = p := ⟨_, rfl⟩
      obtain ⟨ln2, hln2⟩ : ∃ x, (ks[i1]!).2.length = x := ⟨_, rfl⟩
      obtain ⟨kb, hkb⟩ : ∃ k, Sea.kp (Sea.wo (pF ks) (aF ks) (kF ks) s i1) (pF ks i1) (M - 1) = k := ⟨_, rfl⟩
      rw [hp2, hln2, hkb] at HKB
      rw [hp2] at q0
      rw [hln2] at q1
      have HI1 := hide hi1
      have HKO : Hid (((Sea.kpo (pF ks) (aF ks) (kF ks) s (i + 1) : Nat) : Int) = (kb : Int)) := by
        show _ = _
        rw [← hkb, (unhide HM1).2.2, ← unhide HI1]; rfl
      have HC2 : Hid (∀ W, Below wr.heap.size wr W → W.cell? ⟨b_, o_ + i1 * 2, none⟩ = some (.int .i64 p2) ∧ W.cell? ⟨b_, o_ + i1 * 2 + 1, none⟩ = some (.slice l2.a ln2 l2.c)) := fun W hW => ⟨by rw [hW.cell (p := ⟨b_, o_ + i1 * 2, none⟩) hbk]; exact q0, by rw [hW.cell (p := ⟨b_, o_ + i1 * 2 + 1, none⟩) hbk]; exact q1⟩
      have f3 : (0 : Int) ≤ (i1 : Int) := by omega
      have f4 : (i1 : Int) < (n : Int) := by omega
      obtain ⟨ti, hi_, hz0, hz1, hz2⟩ := info_parts Try.infoI
      have HI := hide hi_
      have HZI := hide hz0
      have HOB := hide (own_int T.own)
      clear hb hlw hL hkk hkk2 HKA HSA hp hln q0 q1 hp2 hln2 hkb T k0 k1 hne hi_ hz0 hi1
      go_wp2_with fail
      refine wp_region_hold (fun w' : World => w'.cell? ⟨b_, o_ + i * 2, none⟩ = some (.int .i64 p) ∧ w'.cell? ⟨b_, o_ + i * 2 + 1, none⟩ = some (.slice l.a ln l.c)) (by kernel_rfl) ?_
      have bd0 : Below wr.heap.size wr wr.drew := (Below.refl _ _).drew
      have hC0 : (fun w' : World => w'.cell? ⟨b_, o_ + i * 2, none⟩ = some (.int .i64 p) ∧ w'.cell? ⟨b_, o_ + i * 2 + 1, none⟩ = some (.slice l.a ln l.c)) wr.drew := unhide HCC _ bd0
      refine wpHold_take (i := 0) (v := ?_) rfl (by kernel_rfl) (by kernel_rfl) (by kernel_rfl) (fun _ _ _ h => h) (Or.inl ⟨by rfl, ?_⟩) hC0 ?_
      rotate_left
      · intro w hSw; clear hSw; go_simp; (try with_reducible rfl)
      (try simp only [List.getElem_toArray, List.getElem_cons_succ, List.getElem_cons_zero])
      (try simp only [Act.put, List.setIfInBounds_toArray, List.set_cons_zero, List.set_cons_succ])
      refine wpHold_take (i := 1) (v := ?_) rfl (by kernel_rfl) (by kernel_rfl) (by kernel_rfl) (fun _ _ _ h => h) (Or.inl ⟨by rfl, ?_⟩) hC0 ?_
      rotate_left
      · intro w hSw; clear hSw; go_simp; (try with_reducible rfl)
      (try simp only [List.getElem_toArray, List.getElem_cons_succ, List.getElem_cons_zero])
      (try simp only [Act.put, List.setIfInBounds_toArray, List.set_cons_zero, List.set_cons_succ])
      refine wpHold_take (i := 2) (v := ?_) rfl (by kernel_rfl) (by kernel_rfl) (by kernel_rfl) (fun _ _ _ h => h) (Or.inl ⟨by rfl, ?_⟩) hC0 ?_
      rotate_left
      · intro w hSw; clear hSw; go_simp; (try with_reducible rfl)
      (try simp only [List.getElem_toArray, List.getElem_cons_succ, List.getElem_cons_zero])
      (try simp only [Act.put, List.setIfInBounds_toArray, List.set_cons_zero, List.set_cons_succ])
      refine wpHold_take (i := 3) (v := ?_) rfl (by kernel_rfl) (by kernel_rfl) (by kernel_rfl) (fun _ _ _ h => h) (Or.inl ⟨by rfl, ?_⟩) hC0 ?_
      rotate_left
      · intro w hSw; (try dsimp only at hSw); obtain ⟨u0, u1⟩ := hSw; go_simp; (try with_reducible rfl)
      (try simp only [List.getElem_toArray, List.getElem_cons_succ, List.getElem_cons_zero])
      (try simp only [Act.put, List.setIfInBounds_toArray, List.set_cons_zero, List.set_cons_succ])
      refine wpHold_take (i := 4) (v := ?_) rfl (by kernel_rfl) (by kernel_rfl) (by kernel_rfl) (fun _ _ _ h => h) (Or.inl ⟨by rfl, ?_⟩) hC0 ?_
      rotate_left
      · intro w hSw; clear hSw; go_simp; (try with_reducible rfl)
      (try simp only [List.getElem_toArray, List.getElem_cons_succ, List.getElem_cons_zero])
      (try simp only [Act.put, List.setIfInBounds_toArray, List.set_cons_zero, List.set_cons_succ])
      refine wpHold_take (i := 5) (v := ?_) rfl (by kernel_rfl) (by kernel_rfl) (by kernel_rfl) (fun _ _ _ h => h) (Or.inl ⟨by rfl, ?_⟩) hC0 ?_
      rotate_left
      · intro w hSw; clear hSw; go_simp; (try with_reducible rfl)
      (try simp only [List.getElem_toArray, List.getElem_cons_succ, List.getElem_cons_zero])
      (try simp only [Act.put, List.setIfInBounds_toArray, List.set_cons_zero, List.set_cons_succ])
      refine wpHold_take (i := 6) (v := ?_) rfl (by kernel_rfl) (by kernel_rfl) (by kernel_rfl) (fun _ _ _ h => h) (Or.inl ⟨by rfl, ?_⟩) hC0 ?_
      rotate_left
      · intro w hSw; clear hSw; go_simp; (try with_reducible rfl)
      (try simp only [List.getElem_toArray, List.getElem_cons_succ, List.getElem_cons_zero])
      (try simp only [Act.put, List.setIfInBounds_toArray, List.set_cons_zero, List.set_cons_succ])
      refine wpHold_take (i := 7) (v := ?_) rfl (by kernel_rfl) (by kernel_rfl) (by kernel_rfl) (fun _ _ _ h => h) (Or.inl ⟨by rfl, ?_⟩) hC0 ?_
      rotate_left
      · intro w hSw; clear hSw; go_simp; (try with_reducible rfl)
      (try simp only [List.getElem_toArray, List.getElem_cons_succ, List.getElem_cons_zero])
      (try simp only [Act.put, List.setIfInBounds_toArray, List.set_cons_zero, List.set_cons_succ])
      refine wpHold_take (i := 8) (v := ?_) rfl (by kernel_rfl) (by kernel_rfl) (by kernel_rfl) (fun _ _ _ h => h) (Or.inl ⟨by rfl, ?_⟩) hC0 ?_
      rotate_left
      · intro w hSw; (try dsimp only at hSw); obtain ⟨u0, u1⟩ := hSw; go_simp; (try with_reducible rfl)
      (try simp only [List.getElem_toArray, List.getElem_cons_succ, List.getElem_cons_zero])
      (try simp only [Act.put, List.setIfInBounds_toArray, List.set_cons_zero, List.set_cons_succ])
      refine wpHold_take (i := 9) (v := ?_) rfl (by kernel_rfl) (by kernel_rfl) (by kernel_rfl) (fun _ _ _ h => h) (Or.inl ⟨by rfl, ?_⟩) hC0 ?_
      rotate_left
      · intro w hSw; clear hSw; go_simp; (try with_reducible rfl)
      (try simp only [List.getElem_toArray, List.getElem_cons_succ, List.getElem_cons_zero])
      (try simp only [Act.put, List.setIfInBounds_toArray, List.set_cons_zero, List.set_cons_succ])
      refine wpHold_one (k := 10) (by kernel_rfl) rfl (fun K hK => ?_)
      (try simp only [List.getElem_toArray, List.getElem_cons_succ, List.getElem_cons_zero])
      go_simp
      refine (unhide HKE _ bd0).mono ?_
      rintro e xw_1 ⟨rfl, hb_1⟩
      have cc_1 := below_step bd0 hb_1
      have hC_1 : (fun w' : World => w'.cell? ⟨b_, o_ + i * 2, none⟩ = some (.int .i64 p) ∧ w'.cell? ⟨b_, o_ + i * 2 + 1, none⟩ = some (.slice l.a ln l.c)) xw_1 := unhide HCC _ cc_1
      refine hK.out _ _ hC_1 ?_
      clear hK K
      (try simp only [Act.put, List.setIfInBounds_toArray, List.set_cons_zero, List.set_cons_succ])
      refine wpHold_one (k := 11) (by kernel_rfl) rfl (fun K hK => ?_)
      (try simp only [List.getElem_toArray, List.getElem_cons_succ, List.getElem_cons_zero])
      go_simp
      refine (unhide HSO _ cc_1).mono ?_
      rintro e xw_2 ⟨g2, m2, rfl, hm2, hg2, hl2, hb_2⟩
      have e2 : M = m2 := by rw [hm2, row_length]
      clear hm2
      subst e2
      have cc_2 := below_step cc_1 hb_2
      have hC_2 : (fun w' : World => w'.cell? ⟨b_, o_ + i * 2, none⟩ = some (.int .i64 p) ∧ w'.cell? ⟨b_, o_ + i * 2 + 1, none⟩ = some (.slice l.a ln l.c)) xw_2 := unhide HCC _ cc_2
      refine hK.out _ _ hC_2 ?_
      clear hK K
      (try simp only [Act.put, List.setIfInBounds_toArray, List.set_cons_zero, List.set_cons_succ])
      refine wpHold_one (k := 12) (by kernel_rfl) rfl (fun K hK => ?_)
      (try simp only [List.getElem_toArray, List.getElem_cons_succ, List.getElem_cons_zero])
      go_simp
      refine hK.out _ _ hC_2 ?_
      clear hK K
      (try simp only [Act.put, List.setIfInBounds_toArray, List.set_cons_zero, List.set_cons_succ])
      refine wpHold_done (by kernel_rfl) ?_ _
      have HBZ := hide cc_2
      have HLZ : Hid (LawIs xw_2 (Sl.val (some ⟨g2, 0, none⟩, M, M)) (row (Sea.wo (pF ks) (aF ks) (kF ks) s i1) M)) := by
        show LawIs _ _ _
        rw [← unhide HI1, ← unhide HWO]; exact hl2
      have HG2 := hide (Nat.le_trans cc_1.size hg2)
      have ⟨y0, y1⟩ := unhide HC2 _ cc_2
      have HKC := hide (unhide HKB xw_2 g2 (unhide HLZ))
      clear hC0 hC_1 hC_2 cc_1 cc_2 bd0 hb_1 hb_2 hl2 hg2 HCC HKE HSO HKB
      go_wp2_with fail
      clear y0 y1
      refine (unhide HKC).mono ?_
      rintro e w4 ⟨rfl, hb4⟩
      have bA := alloc_below w4 (.cells #[.int .i64 (kb : Int)] 3)
      have T4 := (unhide HT).keep (below_step (unhide HBZ) (below_step hb4 bA))
      have L4 := (unhide HLZ).below (below_step hb4 bA)
      have hsz : (w4.alloc (.cells #[.int .i64 (kb : Int)] 3)).heap.size = w4.heap.size + 1 := alloc_size _ _
      have hnews : ∀ (j : Nat) u, ([.int .i64 (kb : Int)] : List Value)[j]? = some u → (w4.alloc (.cells #[.int .i64 (kb : Int)] 3)).cell? ((⟨w4.heap.size, 0, none⟩ : Addr).add j) = some u := World.news_of_block (cs := #[.int .i64 (kb : Int)]) (t := 3) (fr := (0, 0)) (heap_alloc_new w4 _)
      have hone_ : ∀ u ∈ ([.int .i64 (kb : Int)] : List Value), u.oneCell' = true := fun u hu => by rw [List.mem_singleton.1 hu]; rfl
      have hunw : ∀ u ∈ ([.int .i64 (kb : Int)] : List Value), notU u := fun u hu => by rw [List.mem_singleton.1 hu]; trivial
      have q63 : i + 1 ≤ maxLen := by unfold maxLen; omega
      have q8 : (i + 1) * 8 ≤ 140737488355328 := by omega
      have HT4 := hide T4
      have HL4 := hide L4
      have HSZ := hide hsz
      have HNW := hide hnews
      have HON := hide hone_
      have HUN := hide hunw
      have Q63 := hide q63
      have Q8 := hide q8
      have QB := hide T4.bl.size
      have HNE : Hid ((u7).ownBlock ≠ some g2) := fun e => by
        have h1 := (unhide HOB g2 e).2
        have h2 := unhide HG2
        omega
      clear T4 L4 hsz hnews hone_ hunw q63 q8 hb4 bA HKC HT HLZ HOB
      go_wp2_with (at_builtin; go_loud (refine wpList_append_int _ rfl _ _ _ rfl w.heap.size 3 ti 8 Try.underlying28 (unhide HI) (unhide HZI) hz1 hz2 _ i (lrow (fun j => ((Sea.kpo (pF ks) (aF ks) (kF ks) s (j + 1) : Nat) : Int)) i) rfl (unhide HT4).own (unhide HT4).no ⟨w4.heap.size, 0, none⟩ 1 1 [.int .i64 (kb : Int)] rfl rfl (unhide HNW) (unhide HON) (unhide HUN) (by decide) (unhide Q63) (unhide Q8) (unhide QB) (w4.heap.size + 1) (unhide HSZ) ?_; intro g cap w5 hown5 hgrow hat hlt5 hno5))
      have FIN := hide ((unhide HT4).push (f := fun j => ((Sea.kpo (pF ks) (aF ks) (kF ks) s (j + 1) : Nat) : Int)) (by show World.ownsRow _ _ _ _ _ _ (_ ++ [.int .i64 ((Sea.kpo (pF ks) (aF ks) (kF ks) s (i + 1) : Nat) : Int)]); rw [unhide HKO]; exact hown5) hgrow hno5)
      have FLW := hide ((unhide HT4).law (unhide HL4) (unhide HNE) hgrow)
      have FNE : Hid (g ≠ g2) := fun e => by
        rcases hat with h' | h'
        · exact unhide HNE (h'.trans (by rw [e]))
        · have := law_lt (l := (some ⟨g2, 0, none⟩, M, M)) (unhide HL4) (show 0 < M by have := unhide HM1; omega) rfl
          have h2 := unhide HSZ
          have h3 : g2 < (w4.alloc (.cells #[.int .i64 (kb : Int)] 3)).heap.size := this
          rw [h2] at h3
          omega
      clear hown5 hgrow hat hno5 HT4 HL4
      go_wp2_with fail
      have hi1 := unhide HI1
      exact ⟨⟨i + 1, g2, rfl, by go_num, hlt, fun e => unhide FNE (Option.some.inj e), by rw [unhide HI1]; exact unhide FLW, unhide FIN⟩, by simp [intOf]; omega⟩
    · obtain rfl : i = m := by omega
      have f1 : ¬ (i : Int) < (i : Int) := by omega
      have HR := hide T.row
      have HBL := hide T.bl
      have HMN : Hid (n - 1 = i) := HMN0
      clear hb hlw T HT
      go_wp2
      go_ret2
      exact Or.inr ⟨unhide HZ, _, rfl, by rw [unhide HN, unhide HMN]; exact unhide HR, unhide HBL⟩
end Go.Proofs.Ytfnbjenneodcdaa
