/- Hidden states: fromEnd. -/
import Derived.Test.YtfnbjenneodcdaaGreatDoorBL3
namespace Go.Proofs.YtfnbjenneodcdaaGreatDoor
open Go.RowKit Go.Sort Go.Shelf

theorem step_append_tri {P : Program} (w : World) {ops : Array Oper} {o : Oper} {a : Act} {K : Act → World → Prop} {Q : Exit → Act → World → Prop} {E : Prop} (hgd : o.guard = none) (s x : Operand) (t : TypeId)
    (ho : o.op = .call { callee := .builtin .append, args := #[s, x], argTypes := #[t, t] })
    (base : Nat) (e : TypeId) (i : TypeInfo) (bytes : Nat) (ht : P.underlying t = some (.slice e)) (hi : P.info? e = some i) (hz : i.zero = some (.agg zR))
    (hsize : i.size = 3) (hby : i.bytes = bytes)
    (v : Value) (n : Nat) (xs : List Value) (hs : a.eval s = v) (hown : w.ownsRow base e 3 v n xs) (hno : ∀ g, v.ownBlock = some g → Wordless w g)
    (ad : Addr) (m c : Nat) (news : List Value) (hx : a.eval x = .slice (some ad) m c) (hl : news.length = m * 3) (hnews : ∀ j u, news[j]? = some u → w.cell? (ad.add j) = some u) (h1 : ∀ u ∈ news, u.oneCell' = true) (h1w : ∀ u ∈ news, Go.Proofs.YtfnbjenneodcdaaGreatDoor.notWord u)
    (hm : 0 < m) (h63 : n + m ≤ maxLen) (hbytes : (n + m) * bytes ≤ 140737488355328) (hbase : base ≤ w.heap.size) (H : Nat) (hH : w.heap.size = H)
    (h : ∀ g cap w', w'.ownsRow base e 3 (.slice (some ⟨g, 0, none⟩) (n + m) cap) (n + m) (xs ++ news) → w.grownBy w' v.ownBlock → (v.ownBlock = some g ∨ g = H) → g < w'.heap.size → Wordless w' g → K (a.put o.dst (.slice (some ⟨g, 0, none⟩) (n + m) cap)) w') :
    if Region.wanted o (yielded ops a.tmps) = true then Oper.wp P o a w K Q else E := by
  have hw : Region.wanted o (yielded ops a.tmps) = true := by simp [Region.wanted, hgd]
  rw [if_pos hw]
  obtain ⟨g, cap, w', hr, h2, h3, h4, h5⟩ := run_append_lies (P := P) w t o.type base e i _ 3 bytes ht hi hz hsize hby (by decide) (by omega) v n xs hown ad m c news hl hnews h1 hm h63 hbytes hbase H hH
  have h6 := append_wordless ht hi hz hsize hby hown hno hl hnews h1 h1w hm h63 hbytes hr
  unfold Oper.wp execOp
  simp only [ho, resolve, invoke, builtin, Sem.run_bind, Sem.run_pure, Result.andThen_ok, List.map_toArray, List.map_cons, List.map_nil, hs, hx, hr]
  exact h g cap w' h2 h3 h4 h5 h6
/-- A row is kept where another one of the call's own grows. -/
theorem FsAt.apart {w wr w' : World} {B : Nat} {v : Value} {ts : List Tri} {qs : List Rat} {r : Option Nat} (h : FsAt w wr B v ts qs) (hg : wr.grownBy w' r) (hne : ∀ k, v.ownBlock = some k → r ≠ some k) (hno : ∀ g, r = some g → Wordless wr g) (hb : Below w.heap.size w w') : FsAt w w' B v ts qs := by
  have hblk : ∀ k, v.ownBlock = some k → w'.heap[k]? = wr.heap[k]? := fun k hk => hg.block k (ownsR_block h.own k hk).2 (fun e => hne k hk e.symm)
  refine ⟨?_, fun g hgb i k x e => h.no g hgb i k x ?_, fun j hj => (h.rat j hj).far hg hno, hb, h.base⟩
  · refine ⟨h.own.1, ?_⟩
    rcases h.own.2 with h2 | ⟨g, cap, cur, hv, hbg, hh, hr⟩
    · exact Or.inl h2
    · exact Or.inr ⟨g, cap, cur, hv, hbg, by rw [hblk g (by rw [hv]; rfl)]; exact hh, hr⟩
  · simp only [World.cell?] at e ⊢
    rw [← hblk g hgb]
    exact e

theorem grown_below {V a b : World} {r : Option Nat} (h : V.grownBy a r) (hb : Below a.heap.size a b) : V.grownBy b r :=
  ⟨hb.os.trans h.os, hb.tape.trans h.tape, hb.output.trans h.output, Nat.le_trans h.size hb.size, fun k hk hne => (hb.block k (Nat.lt_of_lt_of_le hk h.size)).trans (h.block k hk hne)⟩
theorem grown_far {V a b : World} {r r' : Option Nat} (h : V.grownBy a r) (k : a.grownBy b r') (hr : ∀ j, r' = some j → V.heap.size ≤ j) : V.grownBy b r :=
  ⟨k.os.trans h.os, k.tape.trans h.tape, k.output.trans h.output, Nat.le_trans h.size k.size, fun i hi hne => (k.block i (Nat.lt_of_lt_of_le hi h.size) (fun e => by have := hr i e.symm; omega)).trans (h.block i hi hne)⟩
theorem grown_refl (V : World) (r : Option Nat) : V.grownBy V r := ⟨rfl, rfl, rfl, Nat.le_refl _, fun _ _ _ => rfl⟩
theorem hdl_all (n : Nat) (ls : Nat → Sl) : hdl n 0 ls = hdl n n (fun _ => (none, 0, 0)) := by
  unfold hdl
  refine List.map_congr_left (fun i hi => ?_)
  rw [if_neg (Nat.not_lt_zero _), if_pos (List.mem_range.1 hi)]
  rfl
theorem law_ne_hd {w : World} {l : Sl} {qs : List Rat} {G n c : Nat} {ls : Nat → Sl} {T : TypeId} (h : LawIs w l.val qs) (hg : w.heap[G]? = some (.cells (hdl n c ls).toArray T)) (hp : 0 < l.n) {ad : Addr} (ha : l.a = some ad) : some G ≠ some ad.block := fun e => by
  injection e with e
  obtain ⟨b, o, ea, _, hc⟩ := h.open (n := qs.length) rfl (by have := law_len h; omega)
  obtain ⟨t, k0, _⟩ := hc 0 (by have := law_len h; omega)
  rw [ha] at ea
  injection ea with ea
  rw [ea] at e
  simp only at e
  rw [← e] at k0
  simp only [World.cell?, hg] at k0
  have hm : (Value.bool t.s) ∈ hdl n c ls := by
    rw [List.getElem?_toArray] at k0
    exact List.mem_of_getElem? k0
  unfold hdl at hm
  rw [List.mem_map] at hm
  obtain ⟨i, _, hi⟩ := hm
  split at hi
  · cases hi
  · cases hi
theorem hdl_wordless {w : World} {G n c : Nat} {ls : Nat → Sl} {T : TypeId} (hg : w.heap[G]? = some (.cells (hdl n c ls).toArray T)) : Wordless w G := wordless_of hg (fun u hu => hdl_notWord n c ls u (by simpa using hu))
theorem owns_len {w : World} {B k n lj lc : Nat} {e : TypeId} {la : Option Addr} {xs : List Value} (h : w.ownsRow B e k (Sl.val (la, lj, lc)) n xs) : lj = n := by
  rcases h.2 with ⟨h1, h2⟩ | ⟨g, cap, cur, h1, _⟩
  · have h1 : Value.slice la lj lc = .slice none 0 0 := h1
    injection h1 with _ h1
    omega
  · have h1 : Value.slice la lj lc = .slice (some ⟨g, 0, none⟩) n cap := h1
    injection h1
/-- What the loop over times holds: rows from t on are done. -/
structure EndO (W0 wr : World) (GO T n t : Nat) (ls : Nat → Sl) (B : Nat → Nat → Rat) : Prop where
  hd : HdAt W0 wr GO T T ls
  law : ∀ i, t ≤ i → i < T → LawIs wr (ls i).val (row (B (T - 1 - i)) n)
  nil : ∀ i, i < t → ls i = (none, 0, 0)
  fr : ∀ i, t ≤ i → i < T → ∀ ad, (ls i).a = some ad → W0.heap.size ≤ ad.block
theorem EndO.keep {W0 wr w' : World} {GO T n t : Nat} {ls : Nat → Sl} {B : Nat → Nat → Rat} (h : EndO W0 wr GO T n t ls B) (hb : Below wr.heap.size wr w') : EndO W0 w' GO T n t ls B := ⟨h.hd.keep hb, fun i h1 h2 => (h.law i h1 h2).below hb, h.nil, h.fr⟩
/-- One more row is there. -/
theorem EndO.put {W0 wr : World} {GO T n t : Nat} {ls : Nat → Sl} {B : Nat → Nat → Rat} (h : EndO W0 wr GO T n (t + 1) ls B) (ht : t < T) (l : Sl) (hl : LawIs wr l.val (row (B (T - 1 - t)) n)) (hf : ∀ ad, l.a = some ad → W0.heap.size ≤ ad.block) : EndO W0 (wr.setCell ⟨GO, t, none⟩ (.slice l.a l.n l.c)) GO T n t (upl ls t l) B := by
  refine ⟨⟨?_, h.hd.gl, h.hd.bl.setCell (p := ⟨GO, t, none⟩) h.hd.gl _⟩, fun i h1 h2 => ?_, fun i hi => ?_, fun i h1 h2 ad ha => ?_⟩
  · have := hdl_write h.hd.out t (.slice l.a l.n l.c)
    rw [show (Value.slice l.a l.n l.c) = l.val from rfl, hdl_set T T t ls l ht] at this
    exact this
  · unfold upl
    by_cases e : i = t
    · subst e
      rw [if_pos rfl]
      exact hl.headed h.hd.out _
    · rw [if_neg e]
      exact (h.law i (by omega) h2).headed h.hd.out _
  · unfold upl
    rw [if_neg (by omega)]
    exact h.nil i (by omega)
  · unfold upl at ha
    by_cases e : i = t
    · rw [if_pos e] at ha; exact hf ad ha
    · rw [if_neg e] at ha; exact h.fr i (by omega) h2 ad ha
/-- What the loop over states holds. -/
structure EndI (W0 V wv : World) (GO T t : Nat) (ls ls' : Nat → Sl) (ts : List Tri) (qs : List Rat) : Prop where
  hd : wv.heap[GO]? = some (.cells (hdl T T ls').toArray 41)
  fs : FsAt W0 wv V.heap.size (ls' t).val ts qs
  fr : V.grownBy wv (some GO)
  oth : ∀ i, i ≠ t → ls' i = ls i
theorem EndI.start {W0 V : World} {GO T n t : Nat} {ls : Nat → Sl} {B : Nat → Nat → Rat} (h : EndO W0 V GO T n (t + 1) ls B) (qs : List Rat) : EndI W0 V V GO T t ls ls [] qs := by
  refine ⟨h.hd.out, ?_, grown_refl _ _, fun _ _ => rfl⟩
  rw [h.nil t (by omega)]
  exact ⟨World.ownsRow_nil _ _ _ _, fun g hg => absurd (show (none : Option Nat) = some g from hg) (by simp), fun j hj => absurd hj (Nat.not_lt_zero _), h.hd.bl, h.hd.bl.size⟩
theorem EndI.keep {W0 V wv w' : World} {GO T t : Nat} {ls ls' : Nat → Sl} {ts : List Tri} {qs : List Rat} (h : EndI W0 V wv GO T t ls ls' ts qs) (hb : Below wv.heap.size wv w') : EndI W0 V w' GO T t ls ls' ts qs := ⟨by rw [hb.block _ (Array.getElem?_eq_some_iff.1 h.hd).1]; exact h.hd, h.fs.keep hb, grown_below h.fr hb, h.oth⟩
/-- The row has grown, and lies in its place. -/
theorem EndI.push {W0 V wv w' : World} {GO T t g cap : Nat} {ls ls' : Nat → Sl} {ts : List Tri} {u : Tri} {qs : List Rat} (h : EndI W0 V wv GO T t ls ls' ts qs) (hG : GO < V.heap.size) (hG0 : W0.heap.size ≤ GO) (htT : t < T) (hu : RatIs wv u.val qs[ts.length]!)
    (own : w'.ownsRow V.heap.size 26 3 (.slice (some ⟨g, 0, none⟩) (ts.length + 1) cap) (ts.length + 1) (tcells ts ++ u.cells)) (hg : wv.grownBy w' (ls' t).val.ownBlock) (hn : Wordless w' g) :
    EndI W0 V (w'.setCell ⟨GO, t, none⟩ (.slice (some ⟨g, 0, none⟩) (ts.length + 1) cap)) GO T t ls (upl ls' t (some ⟨g, 0, none⟩, ts.length + 1, cap)) (ts ++ [u]) qs := by
  have hlo : ∀ k, (ls' t).val.ownBlock = some k → V.heap.size ≤ k := fun k hk => (ownsR_block h.fs.own k hk).1
  have hd' : w'.heap[GO]? = some (.cells (hdl T T ls').toArray 41) := by
    rw [hg.block GO (Array.getElem?_eq_some_iff.1 h.hd).1 (fun e => by have := hlo GO e.symm; omega)]; exact h.hd
  have F := h.fs.push hu own hg hn h.fr.size
  have fr' := grown_far h.fr hg hlo
  refine ⟨?_, ?_, ?_, fun i hi => ?_⟩
  · have := hdl_write hd' t (.slice (some ⟨g, 0, none⟩) (ts.length + 1) cap)
    rw [show (Value.slice (some ⟨g, 0, none⟩) (ts.length + 1) cap) = Sl.val (some ⟨g, 0, none⟩, ts.length + 1, cap) from rfl, hdl_set T T t ls' _ htT] at this
    exact this
  · have e : (upl ls' t (some ⟨g, 0, none⟩, ts.length + 1, cap)) t = (some ⟨g, 0, none⟩, ts.length + 1, cap) := if_pos rfl
    rw [e]
    refine F.apart (grown_set w' GO t _) (fun k hk e => ?_) (fun k e => ?_) (F.bl.setCell (p := ⟨GO, t, none⟩) hG0 _)
    · injection e with e
      have hk' : g = k := Option.some.inj hk
      have := (ownsR_block own g rfl).1
      omega
    · injection e with e
      rw [← e]; exact hdl_wordless hd'
  · exact grown_step fr'
  · unfold upl
    rw [if_neg hi]
    exact h.oth i hi
/-- All states: the row is done. -/
theorem EndI.done {W0 V wv : World} {GO T n t : Nat} {ls ls' : Nat → Sl} {ts : List Tri} {B : Nat → Nat → Rat} (h : EndI W0 V wv GO T t ls ls' ts (row (B (T - 1 - t)) n)) (ho : EndO W0 V GO T n (t + 1) ls B) (_ht : t < T) (hl : ts.length = n) : EndO W0 wv GO T n t ls' B := by
  refine ⟨⟨h.hd, ho.hd.gl, h.fs.bl⟩, fun i h1 h2 => ?_, fun i hi => ?_, fun i h1 h2 ad ha => ?_⟩
  · by_cases e : i = t
    · subst e
      exact law_of_owns h.fs.own (by rw [row_length]; exact hl) h.fs.rat
    · rw [h.oth i e]
      have hl := ho.law i (by omega) h2
      refine hl.far h.fr (fun g e => ?_) (fun hp ad ha => law_ne_hd hl ho.hd.out hp ha)
      injection e with e
      rw [← e]; exact hdl_wordless ho.hd.out
  · rw [h.oth i (by omega)]
    exact ho.nil i (by omega)
  · by_cases e : i = t
    · rw [e] at ha
      have hk : (ls' t).val.ownBlock = some ad.block := by unfold Sl.val; rw [ha]; rfl
      exact Nat.le_trans ho.hd.bl.size (ownsR_block h.fs.own _ hk).1
    · rw [h.oth i e] at ha
      exact ho.fr i (by omega) h2 ad ha
theorem HdAt.rowsFr {w wr : World} {G n : Nat} {ls : Nat → Sl} {ks : List (List Rat)} (h : HdAt w wr G n n ls) (hk : ks.length = n) (hn : n ≤ 1000) (hl : ∀ i, i < n → LawIs wr (ls i).val ks[i]!) (hf : ∀ i, i < n → ∀ ad, (ls i).a = some ad → w.heap.size ≤ ad.block) : RowsFr w.heap.size wr (.slice (some ⟨G, 0, none⟩) n n) ks :=
  ⟨_, _, by rw [hk], by rw [hk]; exact Nat.le_refl _, by omega, fun _ => ⟨G, 0, rfl, h.gl, h.lt, fun j hj => ⟨ls j, by rw [Nat.zero_add]; exact hdl_cell h.out (by omega) (by omega), hl j (by omega), hf j (by omega)⟩⟩⟩
theorem RowsFr.rows {B : Nat} {w : World} {v : Value} {ks : List (List Rat)} (h : RowsFr B w v ks) : RowsAre w v ks := by
  obtain ⟨a, c, e, h1, h2, h3⟩ := h
  refine ⟨a, c, e, h1, h2, fun hp => ?_⟩
  obtain ⟨b, o, ea, _, hlt, hc⟩ := h3 hp
  exact ⟨b, o, ea, hlt, fun j hj => by obtain ⟨l, c0, r, _⟩ := hc j hj; exact ⟨l, c0, r⟩⟩
theorem RowsFr.mono {B B' : Nat} {w : World} {v : Value} {ks : List (List Rat)} (h : RowsFr B w v ks) (hB : B' ≤ B) : RowsFr B' w v ks := by
  obtain ⟨a, c, e, h1, h2, h3⟩ := h
  refine ⟨a, c, e, h1, h2, fun hp => ?_⟩
  obtain ⟨b, o, ea, hb, hlt, hc⟩ := h3 hp
  exact ⟨b, o, ea, Nat.le_trans hB hb, hlt, fun j hj => by obtain ⟨l, c0, r, hl⟩ := hc j hj; exact ⟨l, c0, r, fun ad e => Nat.le_trans hB (hl ad e)⟩⟩
/-- Rows beyond B are kept where nothing beyond B is written. -/
theorem RowsFr.map {B : Nat} {w w' : World} {v : Value} {ks : List (List Rat)} (h : RowsFr B w v ks) (hsz : w.heap.size ≤ w'.heap.size) (hk : ∀ k, B ≤ k → k < w.heap.size → w'.heap[k]? = w.heap[k]?) (hr : ∀ v q, RatIs w v q → RatIs w' v q) : RowsFr B w' v ks := by
  obtain ⟨a, c, e, h1, h2, h3⟩ := h
  refine ⟨a, c, e, h1, h2, fun hp => ?_⟩
  obtain ⟨b, o, ea, hB, hlt, hc⟩ := h3 hp
  refine ⟨b, o, ea, hB, Nat.lt_of_lt_of_le hlt hsz, fun j hj => ?_⟩
  obtain ⟨l, c0, r, hl⟩ := hc j hj
  refine ⟨l, ?_, ?_, hl⟩
  · simp only [World.cell?] at c0 ⊢
    rw [hk b hB hlt]; exact c0
  · obtain ⟨la, lc, le, i1, i2, i3⟩ := r
    refine ⟨la, lc, le, i1, i2, fun hp => ?_⟩
    obtain ⟨bb, oo, eb, hbl, hcc⟩ := i3 hp
    have e1 : l.a = la := by injection le
    have hB2 := hl ⟨bb, oo, none⟩ (by rw [e1, eb])
    refine ⟨bb, oo, eb, Nat.lt_of_lt_of_le hbl hsz, fun i hi => ?_⟩
    obtain ⟨s, a1, a2, n1, c1, n2, c2, k0, k1, k2, rr⟩ := hcc i hi
    simp only [World.cell?] at k0 k1 k2
    exact ⟨s, a1, a2, n1, c1, n2, c2, by simp only [World.cell?]; rw [hk bb hB2 hbl]; exact k0, by simp only [World.cell?]; rw [hk bb hB2 hbl]; exact k1, by simp only [World.cell?]; rw [hk bb hB2 hbl]; exact k2, hr _ _ rr⟩
/-- What fromEnd yields. -/
def EndPost (w : World) (T n : Nat) (B : Nat → Nat → Rat) (e : Ending) (w' : World) : Prop := ∃ G, e = .returned (.slice (some ⟨G, 0, none⟩) T T) ∧ RowsFr w.heap.size w' (.slice (some ⟨G, 0, none⟩) T T) (mrows T n (fun i => B (T - 1 - i))) ∧ Below w.heap.size w w'
/-- A function of two rows. -/
def OverIs (fk n J : Nat) (ov : (Nat → Rat) → (Nat → Rat) → Rat) : Prop := ∀ (l1 l2 : Sl) (qs xs : List Rat) (W : World), LawIs W l1.val qs → LawIs W l2.val xs → qs.length = n → xs.length = n → (∀ i, i < n → RS qs[i]! J) → (∀ i, i < n → RS xs[i]! J) →
  Calls Tryz.prog fk #[.slice l1.a n l1.c, .slice l2.a n l2.c] W fun e w' => ∃ v, e = .returned v ∧ RatIs w' v (ov (fun j => qs[j]!) (fun j => xs[j]!)) ∧ Below W.heap.size W w'

set_option maxHeartbeats 16000000 in
set_option maxRecDepth 100000 in
set_option linter.unusedSimpArgs false in
theorem fromEnd_any (v : Value) (sn : Sl) (fs : List Rat) (P G : List (List Rat)) (s : Nat → Nat) (T fk J : Nat) (ov : (Nat → Rat) → (Nat → Rat) → Rat) (w : World) (h : HmIs w v fs P G) (gm : GoodH fs P G) (sm : SmHm fs P G) (hs : NRow w (.slice sn.a T sn.c) T (fun i => ((s i : Nat) : Int))) (hT : T ≤ 1000) (hsk : ∀ i, i < T → s i < (G[0]!).length)
    (hfk : ∀ args w, (callFunc fk args).run Tryz.prog w = .ok (.enter fk args) w) (hov : OverIs fk fs.length J ov) (hcg : ∀ a b c d : Nat → Rat, (∀ i, i < fs.length → a i = c i) → (∀ i, i < fs.length → b i = d i) → ov a b = ov c d) (hJ : J + J + 1 ≤ KK) (hJ1 : 2 ≤ J) (hR : ∀ d i, d < T → i < fs.length → RS (Blf.bw (hm fs P G) s T ov d i) (J - 1)) :
    Calls Tryz.prog 50 #[v, .slice sn.a T sn.c, .func (.func fk) #[] #[]] w (EndPost w T fs.length (Blf.bw (hm fs P G) s T ov)) := by
  have KKe : KK = 1099511627776 := rfl
  obtain ⟨ti, hti, hz0, hz1, hz2⟩ := info_parts Tryz.infoR
  have HII := hide hti
  have HZ := hide hz0
  have HSM := hide sm
  have HGM := hide gm
  have hn1 := gm.n1
  have hn8 := gm.n8
  obtain ⟨sf, sp, sg, rfl, hF, hP, hG⟩ := h
  have hfn := law_len hF
  have hpn := rows_len hP
  have hgn := rows_len hG
  obtain ⟨n, hn⟩ : ∃ n, fs.length = n := ⟨_, rfl⟩
  have HN := hide hn
  rw [hn] at hfn
  rw [gm.pl, hn] at hpn
  rw [gm.gl, hn] at hgn
  have X0 := HBox.new hF hP hG
  have b0 := alloc_below w (.cells #[.slice sf.a sf.n sf.c, .slice sp.a sp.n sp.c, .slice sg.a sg.n sg.c] 53)
  obtain ⟨W0, hW0⟩ : ∃ W, w.alloc (.cells #[.slice sf.a sf.n sf.c, .slice sp.a sp.n sp.c, .slice sg.a sg.n sg.c] 53) = W := ⟨_, rfl⟩
  obtain ⟨bx, hbx⟩ : ∃ b, w.heap.size = b := ⟨_, rfl⟩
  rw [hW0] at X0 b0
  rw [hbx] at X0
  have HX0 := hide X0
  have HB0 := hide b0
  have HCH : Hid (∀ W, Below W0.heap.size W0 W → (fun w' : World => w'.cell? ⟨bx, 0, none⟩ = some (.slice sf.a n sf.c) ∧ w'.cell? ⟨bx, 1, none⟩ = some (.slice sp.a n sp.c) ∧ w'.cell? ⟨bx, 2, none⟩ = some (.slice sg.a n sg.c)) W) := fun W hW => by
    have h1 := (unhide HX0).cells W hW
    rw [hfn, hpn, hgn] at h1
    exact h1
  have HIS : Hid (∀ W, Below W0.heap.size W0 W → HmIs W (.agg #[.slice sf.a n sf.c, .slice sp.a n sp.c, .slice sg.a n sg.c]) fs P G) := fun W hW => by
    have h1 := (unhide HX0).hm.below hW
    unfold hmval at h1
    rw [hfn, hpn, hgn] at h1
    exact h1
  have ⟨c0, c1, c2⟩ := unhide HCH _ (Below.refl _ _)
  have HFN := hide hfn
  have HPN := hide hpn
  have HGN := hide hgn
  unfold hmval
  rw [hfn, hpn, hgn] at hW0 ⊢
  clear hF hP hG X0 b0 hn hfn hpn hgn
  rw [unhide HN] at hn1 hn8 hov hR hcg ⊢
  obtain ⟨B, hB⟩ : ∃ B, Blf.bw (hm fs P G) s T ov = B := ⟨_, rfl⟩
  have HB00 : Hid (∀ i, B 0 i = 1) := fun i => by rw [← hB]; rfl
  have HBS : Hid (∀ d i, B (d + 1) i = ov (fun k => (P[i]!)[k]!) (Blf.wsg (hm fs P G) (B d) (s (T - 1 - d)))) := fun d i => by rw [← hB]; rfl
  rw [hB] at hR ⊢
  have HR := hide hR
  have HOVR := hide hov
  have HCG := hide hcg
  have HSK := hide hsk
  have HJ := hide hJ
  have HJ1 := hide hJ1
  have HSN := hide (hs.below (unhide HB0))
  have hsn : T ≤ sn.c ∧ sn.c ≤ 9223372036854775807 := by
    obtain ⟨a, c, e, h1, h2, _⟩ := hs
    have e1 : sn.c = c := by injection e
    rw [e1]; exact ⟨h1, h2⟩
  obtain ⟨hsn1, hsn2⟩ := hsn
  have qmk := make_rows (T : Int) (by omega) (by omega) (fun _ => (none, 0, 0)) W0
  rw [Int.toNat_natCast] at qmk
  have bM := alloc_below W0 (.cells (hdl T 0 (fun _ => (none, 0, 0))).toArray 41)
  have n0 := heap_alloc_new W0 (.cells (hdl T 0 (fun _ => (none, 0, 0))).toArray 41)
  obtain ⟨W1, hW1⟩ : ∃ W, W0.alloc (.cells (hdl T 0 (fun _ => (none, 0, 0))).toArray 41) = W := ⟨_, rfl⟩
  obtain ⟨GO, hGO⟩ : ∃ G, W0.heap.size = G := ⟨_, rfl⟩
  rw [hW1] at qmk bM n0
  rw [hGO] at qmk n0
  rw [hdl_all] at n0
  have HE0 : Hid (EndO W0 W1 GO T n T (fun _ => (none, 0, 0)) B) := ⟨⟨n0, by rw [hGO]; exact Nat.le_refl _, bM⟩, fun i h1 h2 => by omega, fun _ _ => rfl, fun i h1 h2 => by omega⟩
  have eT : IntKind.i64.wrap ((T : Int) - 1) = (T : Int) - 1 := by rw [IntKind.wrap_i64]; omega
  clear hs hsk hov hcg hJ hJ1 hR hB bM n0 sm gm hti hz0
  go_enter Tryz.func50, Tryz.ntmps50
  go_wp2_with fail
  clear hW0 hbx c0 c1 c2 qmk hW1 hGO
  go_loopw [9] (fun vt wr => ∃ (t : Nat) (ls : Nat → Sl), vt = .int .i64 ((t : Int) - 1) ∧ t ≤ T ∧ EndO W0 wr GO T n t ls B) (fun vt _ => (intOf vt + 1).toNat)
  case atStart => exact ⟨T, _, rfl, Nat.le_refl _, unhide HE0⟩
  case round =>
    obtain ⟨t, ls, rfl, ht, S⟩ := hrel
    clear HE0
    by_cases hlt : 0 < t
    · obtain ⟨t0, rfl⟩ : ∃ t0, t = t0 + 1 := ⟨t - 1, by omega⟩
      have et : ((t0 + 1 : Nat) : Int) - 1 = (t0 : Int) := by omega
      rw [et]
      have f0 : (0 : Int) ≤ (t0 : Int) := by omega
      have f1 : (t0 : Int) < (T : Int) := by omega
      have HS := hide S
      have HT0 : Hid (t0 < T) := by show t0 < T; omega
      by_cases hl : t0 + 1 = T
      · have e7 : ((t0 : Int) == (T : Int) - 1) = true := by rw [beq_iff_eq]; omega
        have HB0E : Hid (row (B (T - 1 - t0)) n = row (fun _ => ((1 : Int) : Rat)) n) := row_congr (fun i _ => by
          rw [show T - 1 - t0 = 0 by omega, unhide HB00]; rfl)
        have HC7 : Hid (∀ W, Below wr.heap.size wr W → (fun w' : World => (w'.cell? ⟨bx, 0, none⟩ = some (.slice sf.a n sf.c) ∧ w'.cell? ⟨bx, 1, none⟩ = some (.slice sp.a n sp.c) ∧ w'.cell? ⟨bx, 2, none⟩ = some (.slice sg.a n sg.c))) W) := fun W hW => unhide HCH _ (below_step (unhide HS).hd.bl hW)
        clear S hl
        go_wp2_with fail
        refine wp_region_till (fun w' : World => (w'.cell? ⟨bx, 0, none⟩ = some (.slice sf.a n sf.c) ∧ w'.cell? ⟨bx, 1, none⟩ = some (.slice sp.a n sp.c) ∧ w'.cell? ⟨bx, 2, none⟩ = some (.slice sg.a n sg.c))) 9 (by kernel_rfl) ?_
        have bd0 : Below wr.heap.size wr wr.drew := (Below.refl _ _).drew
        have hC0 : (fun w' : World => (w'.cell? ⟨bx, 0, none⟩ = some (.slice sf.a n sf.c) ∧ w'.cell? ⟨bx, 1, none⟩ = some (.slice sp.a n sp.c) ∧ w'.cell? ⟨bx, 2, none⟩ = some (.slice sg.a n sg.c))) wr.drew := unhide HC7 _ bd0
        refine wpTill_pure (i := 0) (v := ?_) rfl (by kernel_rfl) (by kernel_rfl) (by kernel_rfl) (by kernel_rfl) (fun _ _ _ h => h) (Or.inl ⟨by rfl, ?_⟩) (fun _ => hC0) ?_
        rotate_left
        · intro w hSw; clear hSw; go_simp; (try with_reducible rfl)
        (try simp only [List.getElem_toArray, List.getElem_cons_succ, List.getElem_cons_zero])
        (try simp only [Act.put, List.setIfInBounds_toArray, List.set_cons_zero, List.set_cons_succ])
        refine wpTill_pure (i := 1) (v := ?_) rfl (by kernel_rfl) (by kernel_rfl) (by kernel_rfl) (by kernel_rfl) (fun _ _ _ h => h) (Or.inl ⟨by rfl, ?_⟩) (fun _ => hC0) ?_
        rotate_left
        · intro w hSw; clear hSw; go_simp; (try with_reducible rfl)
        (try simp only [List.getElem_toArray, List.getElem_cons_succ, List.getElem_cons_zero])
        (try simp only [Act.put, List.setIfInBounds_toArray, List.set_cons_zero, List.set_cons_succ])
        refine wpTill_pure (i := 4) (v := ?_) rfl (by kernel_rfl) (by kernel_rfl) (by kernel_rfl) (by kernel_rfl) (fun _ _ _ h => h) (Or.inl ⟨by rfl, ?_⟩) (fun _ => hC0) ?_
        rotate_left
        · intro w hSw; clear hSw; go_simp; (try with_reducible rfl)
        (try simp only [List.getElem_toArray, List.getElem_cons_succ, List.getElem_cons_zero])
        (try simp only [Act.put, List.setIfInBounds_toArray, List.set_cons_zero, List.set_cons_succ])
        refine wpTill_take (i := 5) (v := ?_) rfl (by kernel_rfl) (by kernel_rfl) (by kernel_rfl) (by kernel_rfl) (by kernel_rfl) (by kernel_rfl) (fun _ _ _ h => h) (Or.inl ⟨by rfl, ?_⟩) hC0 ?_
        rotate_left
        · intro w hSw; (try dsimp only at hSw); obtain ⟨u0, u1, u2⟩ := hSw; go_simp; (try with_reducible rfl)
        (try simp only [List.getElem_toArray, List.getElem_cons_succ, List.getElem_cons_zero])
        (try simp only [Act.put, List.setIfInBounds_toArray, List.set_cons_zero, List.set_cons_succ])
        refine wpTill_pure (i := 6) (v := ?_) rfl (by kernel_rfl) (by kernel_rfl) (by kernel_rfl) (by kernel_rfl) (fun _ _ _ h => h) (Or.inl ⟨by rfl, ?_⟩) (fun _ => hC0) ?_
        rotate_left
        · intro w hSw; clear hSw; go_simp; (try with_reducible rfl)
        (try simp only [List.getElem_toArray, List.getElem_cons_succ, List.getElem_cons_zero])
        (try simp only [Act.put, List.setIfInBounds_toArray, List.set_cons_zero, List.set_cons_succ])
        refine wpTill_one (k := 2) (by kernel_rfl) rfl (fun K hK => ?_)
        (try simp only [List.getElem_toArray, List.getElem_cons_succ, List.getElem_cons_zero])
        go_simp
        refine (whole_any 1 (by decide) (by decide) _).mono ?_
        rintro e xw_1 ⟨xv_1, rfl, hv_1, hb_1⟩
        have cc_1 := below_step bd0 hb_1
        have hC_1 : (fun w' : World => (w'.cell? ⟨bx, 0, none⟩ = some (.slice sf.a n sf.c) ∧ w'.cell? ⟨bx, 1, none⟩ = some (.slice sp.a n sp.c) ∧ w'.cell? ⟨bx, 2, none⟩ = some (.slice sg.a n sg.c))) xw_1 := unhide HC7 _ cc_1
        refine hK.out _ _ (fun _ => hC_1) ?_
        clear hK K
        (try simp only [Act.put, List.setIfInBounds_toArray, List.set_cons_zero, List.set_cons_succ])
        obtain ⟨t1, rfl, r1⟩ := tri_of hv_1
        simp only [Tri.val]
        have b3 := alloc_below xw_1 (.cells #[.bool t1.s, .slice t1.a1 t1.n1 t1.c1, .slice t1.a2 t1.n2 t1.c2] 26)
        have n3 := heap_alloc_new xw_1 (.cells #[.bool t1.s, .slice t1.a1 t1.n1 t1.c1, .slice t1.a2 t1.n2 t1.c2] 26)
        have cc3 := below_step cc_1 b3
        have hC3 : (fun w' : World => (w'.cell? ⟨bx, 0, none⟩ = some (.slice sf.a n sf.c) ∧ w'.cell? ⟨bx, 1, none⟩ = some (.slice sp.a n sp.c) ∧ w'.cell? ⟨bx, 2, none⟩ = some (.slice sg.a n sg.c))) (xw_1.alloc (.cells #[.bool t1.s, .slice t1.a1 t1.n1 t1.c1, .slice t1.a2 t1.n2 t1.c2] 26)) := unhide HC7 _ cc3
        refine wpTill_one (k := 3) (by kernel_rfl) rfl (fun K hK => ?_)
        (try simp only [List.getElem_toArray, List.getElem_cons_succ, List.getElem_cons_zero])
        go_simp
        refine hK.out _ _ (fun _ => hC3) ?_
        clear hK K
        (try simp only [Act.put, List.setIfInBounds_toArray, List.set_cons_zero, List.set_cons_succ])
        have r3 := r1.below b3
        obtain ⟨w3, hw3⟩ : ∃ W, xw_1.alloc (.cells #[.bool t1.s, .slice t1.a1 t1.n1 t1.c1, .slice t1.a2 t1.n2 t1.c2] 26) = W := ⟨_, rfl⟩
        obtain ⟨g3, hg3⟩ : ∃ g, xw_1.heap.size = g := ⟨_, rfl⟩
        rw [hw3] at n3 cc3 hC3 r3
        rw [hg3] at n3
        (try simp only [hw3, hg3])
        refine wpTill_one (k := 7) (by kernel_rfl) rfl (fun K hK => ?_)
        (try simp only [List.getElem_toArray, List.getElem_cons_succ, List.getElem_cons_zero])
        go_simp
        refine (repeat_any g3 t1 _ n w3 n3 r3 hn1 (by omega)).mono ?_
        rintro e w7 ⟨g7, n7, rfl, hn7, hge7, hl7, hb7⟩
        rw [row_length] at hn7
        obtain rfl := hn7.symm
        have cc7 := below_step cc3 hb7
        have hC_7 : (fun w' : World => (w'.cell? ⟨bx, 0, none⟩ = some (.slice sf.a n sf.c) ∧ w'.cell? ⟨bx, 1, none⟩ = some (.slice sp.a n sp.c) ∧ w'.cell? ⟨bx, 2, none⟩ = some (.slice sg.a n sg.c))) w7 := unhide HC7 _ cc7
        refine hK.out _ _ (fun _ => hC_7) ?_
        clear hK K
        (try simp only [Act.put, List.setIfInBounds_toArray, List.set_cons_zero, List.set_cons_succ])
        refine wpTill_pure (i := 8) (v := ?_) rfl (by kernel_rfl) (by kernel_rfl) (by kernel_rfl) (by kernel_rfl) (fun _ _ _ h => h) (Or.inl ⟨by rfl, ?_⟩) (fun _ => hC_7) ?_
        rotate_left
        · intro w hSw; clear hSw; go_simp; (try with_reducible rfl)
        (try simp only [List.getElem_toArray, List.getElem_cons_succ, List.getElem_cons_zero])
        (try simp only [Act.put, List.setIfInBounds_toArray, List.set_cons_zero, List.set_cons_succ])
        have S7 := (unhide HS).keep cc7
        have hl7' : LawIs w7 (Sl.val (some ⟨g7, 0, none⟩, n, n)) (row (B (T - 1 - t0)) n) := by rw [unhide HB0E]; exact hl7
        have FZ := S7.put (unhide HT0) (some ⟨g7, 0, none⟩, n, n) hl7' (fun ad e => by
          have e : some (⟨g7, 0, none⟩ : Addr) = some ad := e
          injection e with e
          rw [← e]
          show W0.heap.size ≤ g7
          have := (below_step (unhide HS).hd.bl cc3).size
          omega)
        have yf := hdl_free S7.hd.out t0
        have yc := hdl_cell S7.hd.out (i := t0) (unhide HT0) (unhide HT0)
        rw [S7.nil t0 (Nat.lt_succ_self _)] at yc
        obtain ⟨W9, hW9⟩ : ∃ W, w7.setCell ⟨GO, t0, none⟩ (.slice (some ⟨g7, 0, none⟩) n n) = W := ⟨_, rfl⟩
        have HFZ : Hid (EndO W0 W9 GO T n t0 (upl ls t0 (some ⟨g7, 0, none⟩, n, n)) B) := by rw [← hW9]; exact FZ
        clear S7 FZ hl7' hl7 r1 r3 hv_1
        refine wpTill_one (k := 9) (by kernel_rfl) rfl (fun K hK => ?_)
        (try simp only [List.getElem_toArray, List.getElem_cons_succ, List.getElem_cons_zero])
        go_simp
        refine hK.out _ _ (fun h => absurd (h.symm.trans (by kernel_rfl)) Bool.false_ne_true) ?_
        clear hK K
        (try simp only [Act.put, List.setIfInBounds_toArray, List.set_cons_zero, List.set_cons_succ])
        refine wpTill_done (by kernel_rfl) ?_ _
        clear HC7 yf yc hW9 hC0 hC_1 hC3 hC_7 cc_1 cc3 cc7 bd0 hb_1 b3 n3 hw3 hg3 hb7 hge7
        have e9 : IntKind.i64.wrap ((t0 : Int) - 1) = (t0 : Int) - 1 := by rw [IntKind.wrap_i64]; omega
        go_wp2_with fail
        exact ⟨⟨t0, _, rfl, by have := unhide HT0; omega, unhide HFZ⟩, by simp [intOf] <;> omega⟩
      · have e7 : ((t0 : Int) == (T : Int) - 1) = false := by rw [beq_eq_false_iff_ne]; omega
        obtain ⟨tn, htn⟩ : ∃ x, t0 + 1 = x := ⟨_, rfl⟩
        have hl1 : tn < T := by omega
        have HTN := hide htn
        have e8 : IntKind.i64.wrap ((t0 : Int) + 1) = (tn : Int) := by rw [IntKind.wrap_i64]; omega
        have f2 : (tn : Int) < (T : Int) := by omega
        have f3 : (0 : Int) ≤ (tn : Int) := by omega
        have hlaw := S.law tn (by omega) hl1
        have hln := law_len hlaw
        rw [row_length] at hln
        have hc8 := hdl_cell S.hd.out (i := tn) hl1 hl1
        rw [hln] at hc8
        have hGl := S.hd.lt
        obtain ⟨sa_, cs, es, _, _, h3s⟩ := (unhide HSN).below S.hd.bl
        obtain ⟨bs, os, eas, hbs, hcs⟩ := h3s (by omega)
        have esa : sn.a = some ⟨bs, os, none⟩ := by injection es with e1; rw [e1, eas]
        have hcs' := hcs tn hl1
        have HC8 : Hid (∀ W, Below wr.heap.size wr W → (fun w' : World => (w'.cell? ⟨bx, 0, none⟩ = some (.slice sf.a n sf.c) ∧ w'.cell? ⟨bx, 1, none⟩ = some (.slice sp.a n sp.c) ∧ w'.cell? ⟨bx, 2, none⟩ = some (.slice sg.a n sg.c)) ∧ w'.cell? ⟨GO, tn, none⟩ = some (.slice (ls tn).a n (ls tn).c) ∧ w'.cell? ⟨bs, os + tn, none⟩ = some (.int .i64 ((s tn : Nat) : Int))) W) := fun W hW => by
          refine ⟨unhide HCH _ (below_step (unhide HS).hd.bl hW), ?_, ?_⟩
          · rw [hW.cell (p := ⟨GO, tn, none⟩) hGl]; exact hc8
          · rw [hW.cell (p := ⟨bs, os + tn, none⟩) hbs]; exact hcs'
        have hJ1 := unhide HJ1
        have HWS : Hid (∀ W, Below wr.heap.size wr W → Calls Tryz.prog 84 #[.agg #[.slice sf.a n sf.c, .slice sp.a n sp.c, .slice sg.a n sg.c], .slice (ls tn).a n (ls tn).c, .int .i64 ((s tn : Nat) : Int)] W (RowPost W (row (Blf.wsg (hm fs P G) (B (T - 1 - tn)) (s tn)) n))) := fun W hW => by
          have := withSign_any (.agg #[.slice sf.a n sf.c, .slice sp.a n sp.c, .slice sg.a n sg.c]) (ls tn) fs P G (row (B (T - 1 - tn)) n) (s tn) (J - 1) W (unhide HIS _ (below_step (unhide HS).hd.bl hW)) (unhide HGM) (unhide HSM) (hlaw.below hW) (by rw [row_length]; exact (unhide HN).symm) (unhide HSK _ hl1) (fun i hi => by
            rw [unhide HN] at hi
            rw [row_get hi]; exact unhide HR _ _ (by omega) hi) (by omega) (by have := unhide HJ; omega)
          rw [unhide HN] at this
          rw [show row (Blf.wsg (hm fs P G) (B (T - 1 - tn)) (s tn)) n = row (Blf.wsg (hm fs P G) (fun i => (row (B (T - 1 - tn)) n)[i]!) (s tn)) n from row_congr (fun i hi => by
            show B (T - 1 - tn) i * _ = (row (B (T - 1 - tn)) n)[i]! * _
            rw [row_get hi])]
          exact this
        rw [esa]
        obtain ⟨gt_, hgt_⟩ : ∃ f, Blf.wsg (hm fs P G) (B (T - 1 - tn)) (s tn) = f := ⟨_, rfl⟩
        rw [hgt_] at HWS
        have HFT := hide hgt_
        clear htn S hl hlaw hln hc8 hGl h3s es eas esa hcs hcs' hgt_ hbs
        go_wp2_with fail
        refine wp_region_hold (fun w' : World => (w'.cell? ⟨bx, 0, none⟩ = some (.slice sf.a n sf.c) ∧ w'.cell? ⟨bx, 1, none⟩ = some (.slice sp.a n sp.c) ∧ w'.cell? ⟨bx, 2, none⟩ = some (.slice sg.a n sg.c)) ∧ w'.cell? ⟨GO, tn, none⟩ = some (.slice (ls tn).a n (ls tn).c) ∧ w'.cell? ⟨bs, os + tn, none⟩ = some (.int .i64 ((s tn : Nat) : Int))) (by kernel_rfl) ?_
        have bd0 : Below wr.heap.size wr wr.drew := (Below.refl _ _).drew
        have hC0 : (fun w' : World => (w'.cell? ⟨bx, 0, none⟩ = some (.slice sf.a n sf.c) ∧ w'.cell? ⟨bx, 1, none⟩ = some (.slice sp.a n sp.c) ∧ w'.cell? ⟨bx, 2, none⟩ = some (.slice sg.a n sg.c)) ∧ w'.cell? ⟨GO, tn, none⟩ = some (.slice (ls tn).a n (ls tn).c) ∧ w'.cell? ⟨bs, os + tn, none⟩ = some (.int .i64 ((s tn : Nat) : Int))) wr.drew := unhide HC8 _ bd0
        refine wpHold_take (i := 0) (v := ?_) rfl (by kernel_rfl) (by kernel_rfl) (by kernel_rfl) (fun _ _ _ h => h) (Or.inl ⟨by rfl, ?_⟩) hC0 ?_
        rotate_left
        · intro w hSw; (try dsimp only at hSw); obtain ⟨⟨u0, u1, u2⟩, u3, u4⟩ := hSw; go_simp; (try with_reducible rfl)
        (try simp only [List.getElem_toArray, List.getElem_cons_succ, List.getElem_cons_zero])
        (try simp only [Act.put, List.setIfInBounds_toArray, List.set_cons_zero, List.set_cons_succ])
        refine wpHold_take (i := 1) (v := ?_) rfl (by kernel_rfl) (by kernel_rfl) (by kernel_rfl) (fun _ _ _ h => h) (Or.inl ⟨by rfl, ?_⟩) hC0 ?_
        rotate_left
        · intro w hSw; clear hSw; go_simp; (try with_reducible rfl)
        (try simp only [List.getElem_toArray, List.getElem_cons_succ, List.getElem_cons_zero])
        (try simp only [Act.put, List.setIfInBounds_toArray, List.set_cons_zero, List.set_cons_succ])
        refine wpHold_take (i := 2) (v := ?_) rfl (by kernel_rfl) (by kernel_rfl) (by kernel_rfl) (fun _ _ _ h => h) (Or.inl ⟨by rfl, ?_⟩) hC0 ?_
        rotate_left
        · intro w hSw; clear hSw; go_simp; (try with_reducible rfl)
        (try simp only [List.getElem_toArray, List.getElem_cons_succ, List.getElem_cons_zero])
        (try simp only [Act.put, List.setIfInBounds_toArray, List.set_cons_zero, List.set_cons_succ])
        refine wpHold_take (i := 3) (v := ?_) rfl (by kernel_rfl) (by kernel_rfl) (by kernel_rfl) (fun _ _ _ h => h) (Or.inl ⟨by rfl, ?_⟩) hC0 ?_
        rotate_left
        · intro w hSw; clear hSw; go_simp; (try with_reducible rfl)
        (try simp only [List.getElem_toArray, List.getElem_cons_succ, List.getElem_cons_zero])
        (try simp only [Act.put, List.setIfInBounds_toArray, List.set_cons_zero, List.set_cons_succ])
        refine wpHold_take (i := 4) (v := ?_) rfl (by kernel_rfl) (by kernel_rfl) (by kernel_rfl) (fun _ _ _ h => h) (Or.inl ⟨by rfl, ?_⟩) hC0 ?_
        rotate_left
        · intro w hSw; clear hSw; go_simp; (try with_reducible rfl)
        (try simp only [List.getElem_toArray, List.getElem_cons_succ, List.getElem_cons_zero])
        (try simp only [Act.put, List.setIfInBounds_toArray, List.set_cons_zero, List.set_cons_succ])
        refine wpHold_take (i := 5) (v := ?_) rfl (by kernel_rfl) (by kernel_rfl) (by kernel_rfl) (fun _ _ _ h => h) (Or.inl ⟨by rfl, ?_⟩) hC0 ?_
        rotate_left
        · intro w hSw; (try dsimp only at hSw); obtain ⟨⟨u0, u1, u2⟩, u3, u4⟩ := hSw; go_simp; (try with_reducible rfl)
        (try simp only [List.getElem_toArray, List.getElem_cons_succ, List.getElem_cons_zero])
        (try simp only [Act.put, List.setIfInBounds_toArray, List.set_cons_zero, List.set_cons_succ])
        refine wpHold_take (i := 6) (v := ?_) rfl (by kernel_rfl) (by kernel_rfl) (by kernel_rfl) (fun _ _ _ h => h) (Or.inl ⟨by rfl, ?_⟩) hC0 ?_
        rotate_left
        · intro w hSw; clear hSw; go_simp; (try with_reducible rfl)
        (try simp only [List.getElem_toArray, List.getElem_cons_succ, List.getElem_cons_zero])
        (try simp only [Act.put, List.setIfInBounds_toArray, List.set_cons_zero, List.set_cons_succ])
        refine wpHold_take (i := 7) (v := ?_) rfl (by kernel_rfl) (by kernel_rfl) (by kernel_rfl) (fun _ _ _ h => h) (Or.inl ⟨by rfl, ?_⟩) hC0 ?_
        rotate_left
        · intro w hSw; clear hSw; go_simp; (try with_reducible rfl)
        (try simp only [List.getElem_toArray, List.getElem_cons_succ, List.getElem_cons_zero])
        (try simp only [Act.put, List.setIfInBounds_toArray, List.set_cons_zero, List.set_cons_succ])
        refine wpHold_take (i := 8) (v := ?_) rfl (by kernel_rfl) (by kernel_rfl) (by kernel_rfl) (fun _ _ _ h => h) (Or.inl ⟨by rfl, ?_⟩) hC0 ?_
        rotate_left
        · intro w hSw; clear hSw; go_simp; (try with_reducible rfl)
        (try simp only [List.getElem_toArray, List.getElem_cons_succ, List.getElem_cons_zero])
        (try simp only [Act.put, List.setIfInBounds_toArray, List.set_cons_zero, List.set_cons_succ])
        refine wpHold_take (i := 9) (v := ?_) rfl (by kernel_rfl) (by kernel_rfl) (by kernel_rfl) (fun _ _ _ h => h) (Or.inl ⟨by rfl, ?_⟩) hC0 ?_
        rotate_left
        · intro w hSw; clear hSw; go_simp; (try with_reducible rfl)
        (try simp only [List.getElem_toArray, List.getElem_cons_succ, List.getElem_cons_zero])
        (try simp only [Act.put, List.setIfInBounds_toArray, List.set_cons_zero, List.set_cons_succ])
        refine wpHold_take (i := 10) (v := ?_) rfl (by kernel_rfl) (by kernel_rfl) (by kernel_rfl) (fun _ _ _ h => h) (Or.inl ⟨by rfl, ?_⟩) hC0 ?_
        rotate_left
        · intro w hSw; (try dsimp only at hSw); obtain ⟨⟨u0, u1, u2⟩, u3, u4⟩ := hSw; go_simp; (try with_reducible rfl)
        (try simp only [List.getElem_toArray, List.getElem_cons_succ, List.getElem_cons_zero])
        (try simp only [Act.put, List.setIfInBounds_toArray, List.set_cons_zero, List.set_cons_succ])
        refine wpHold_one (k := 11) (by kernel_rfl) rfl (fun K hK => ?_)
        (try simp only [List.getElem_toArray, List.getElem_cons_succ, List.getElem_cons_zero])
        go_simp
        refine (unhide HWS _ bd0).mono ?_
        rintro e xw_1 ⟨gt, nt, rfl, hnt, hge, hlt1, hb_1⟩
        rw [row_length] at hnt
        obtain rfl := hnt.symm
        have cc_1 := below_step bd0 hb_1
        have hC_1 : (fun w' : World => (w'.cell? ⟨bx, 0, none⟩ = some (.slice sf.a n sf.c) ∧ w'.cell? ⟨bx, 1, none⟩ = some (.slice sp.a n sp.c) ∧ w'.cell? ⟨bx, 2, none⟩ = some (.slice sg.a n sg.c)) ∧ w'.cell? ⟨GO, tn, none⟩ = some (.slice (ls tn).a n (ls tn).c) ∧ w'.cell? ⟨bs, os + tn, none⟩ = some (.int .i64 ((s tn : Nat) : Int))) xw_1 := unhide HC8 _ cc_1
        refine hK.out _ _ hC_1 ?_
        clear hK K
        (try simp only [Act.put, List.setIfInBounds_toArray, List.set_cons_zero, List.set_cons_succ])
        refine wpHold_one (k := 12) (by kernel_rfl) rfl (fun K hK => ?_)
        (try simp only [List.getElem_toArray, List.getElem_cons_succ, List.getElem_cons_zero])
        go_simp
        refine hK.out _ _ hC_1 ?_
        clear hK K
        (try simp only [Act.put, List.setIfInBounds_toArray, List.set_cons_zero, List.set_cons_succ])
        refine wpHold_done (by kernel_rfl) ?_ _
        clear hC0 bd0
        have HTL := hide hlt1
        have HV := hide ((unhide HS).keep cc_1)
        clear hC_1 cc_1 hb_1 hlt1 hge HC8 HWS HS
        obtain ⟨V, hV⟩ : ∃ V, xw_1 = V := ⟨_, rfl⟩
        rw [hV] at HTL HV ⊢
        clear hV
        have ⟨d0, d1, d2⟩ := unhide HCH _ (unhide HV).hd.bl
        have HI0 := hide (EndI.start (unhide HV) (row (B (T - 1 - t0)) n))
        go_wp2_with fail
        clear d0 d1 d2
        go_loopw [50] (fun vj wv => ∃ (j : Nat) (ls' : Nat → Sl) (ts : List Tri), vj = .int .i64 (j : Int) ∧ j ≤ n ∧ ts.length = j ∧ EndI W0 V wv GO T t0 ls ls' ts (row (B (T - 1 - t0)) n)) (fun vj _ => n - (intOf vj).toNat)
        case atStart => exact ⟨0, ls, [], rfl, Nat.zero_le _, rfl, unhide HI0⟩
        case round =>
          obtain ⟨j, ls', ts, rfl, hj, hts, TI⟩ := hrel
          clear HI0
          by_cases hltj : j < n
          · have j1 : (j : Int) < (n : Int) := by omega
            have j0 : (0 : Int) ≤ (j : Int) := by omega
            have hltP : j < P.length := by rw [(unhide HGM).pl, unhide HN]; exact hltj
            obtain ⟨bp, op, mp, hpa, hbp, k0, hA⟩ := ((unhide HX0).2.2.1).at hltP
            have hmp := law_len hA
            rw [(unhide HGM).px j (by rw [unhide HN]; exact hltj), unhide HN] at hmp
            rw [hmp] at k0
            have hVW := (unhide HV).hd.bl
            have hGV := (unhide HV).hd.lt
            have hGW := (unhide HV).hd.gl
            have hbl := TI.fs.bl
            have hcg0 := hdl_cell TI.hd (i := t0) (unhide HT0) (unhide HT0)
            have hGl : GO < wr.heap.size := (Array.getElem?_eq_some_iff.1 TI.hd).1
            obtain ⟨la, hla⟩ : ∃ a, (ls' t0).a = a := ⟨_, rfl⟩
            have hlj : (ls' t0).n = ts.length := owns_len (la := (ls' t0).a) (lj := (ls' t0).n) (lc := (ls' t0).c) TI.fs.own
            obtain ⟨lc, hlc⟩ : ∃ a, (ls' t0).c = a := ⟨_, rfl⟩
            have HLS : Hid (ls' t0 = (la, ts.length, lc)) := by show _ = _; rw [← hla, ← hlj, ← hlc]
            rw [hla, hlj, hlc] at hcg0
            have HCC : Hid (∀ W, Below wr.heap.size wr W → (fun w' : World => (w'.cell? ⟨bx, 0, none⟩ = some (.slice sf.a n sf.c) ∧ w'.cell? ⟨bx, 1, none⟩ = some (.slice (some ⟨bp, op, none⟩) n sp.c) ∧ w'.cell? ⟨bx, 2, none⟩ = some (.slice sg.a n sg.c)) ∧ w'.cell? ⟨GO, t0, none⟩ = some (.slice la ts.length lc) ∧ w'.cell? ⟨bp, op + j, none⟩ = some (.slice mp.a n mp.c)) W) := fun W hW => by
              have h2 := below_step hbl hW
              have h1 := unhide HCH _ h2
              rw [hpa] at h1
              refine ⟨h1, ?_, ?_⟩
              · rw [hW.cell (p := ⟨GO, t0, none⟩) hGl]; exact hcg0
              · rw [h2.cell (p := ⟨bp, op + j, none⟩) hbp]; exact k0
            have htl : LawIs wr (Sl.val (some ⟨gt, 0, none⟩, n, n)) (row gt_ n) := (unhide HTL : LawIs V (Sl.val (some ⟨gt, 0, none⟩, n, n)) (row gt_ n)).far TI.fr (fun g e => by
              injection e with e
              rw [← e]; exact hdl_wordless (unhide HV).hd.out) (fun hp ad ha => law_ne_hd (unhide HTL : LawIs V (Sl.val (some ⟨gt, 0, none⟩, n, n)) (row gt_ n)) (unhide HV).hd.out hp ha)
            have HVAL : Hid (ov (fun k => (P[j]!)[k]!) (fun k => (row gt_ n)[k]!) = B (T - 1 - t0) j) := by
              show _ = _
              have htn := unhide HTN
              rw [show T - 1 - t0 = (T - 1 - tn) + 1 by omega, unhide HBS]
              refine unhide HCG _ _ _ _ (fun _ _ => rfl) (fun i hi => ?_)
              rw [row_get hi, ← unhide HFT, show T - 1 - (T - 1 - tn) = tn by omega]
            have HOV : Hid (∀ W, Below wr.heap.size wr W → Calls Tryz.prog fk #[.slice mp.a n mp.c, .slice (some ⟨gt, 0, none⟩) n n] W fun e w' => ∃ v, e = .returned v ∧ RatIs w' v (B (T - 1 - t0) j) ∧ Below W.heap.size W w') := fun W hW => by
              rw [← unhide HVAL]
              refine unhide HOVR mp (some ⟨gt, 0, none⟩, n, n) P[j]! (row gt_ n) W (hA.below (below_step hbl hW)) (htl.below hW) (by rw [(unhide HGM).px j (by rw [unhide HN]; exact hltj)]; exact unhide HN) (row_length _ _) (fun i hi => ?_) (fun i hi => ?_)
              · exact ((unhide HSM).rp j i hltP (by rw [(unhide HGM).px j (by rw [unhide HN]; exact hltj), unhide HN]; exact hi)).mono (by have := unhide HJ1; omega)
              · rw [row_get hi, ← unhide HFT]
                have hig : i < G.length := by rw [(unhide HGM).gl, unhide HN]; exact hi
                exact ((unhide HR _ _ (by omega) hi).mul ((unhide HSM).rg i (s tn) hig (by rw [(unhide HGM).gx i (by rw [unhide HN]; exact hi)]; exact unhide HSK _ (by omega)))).mono (by have := unhide HJ1; omega)
            have HLOW : Hid (bx < V.heap.size ∧ bp < V.heap.size) := ⟨Nat.lt_of_lt_of_le (unhide HX0).lt hVW.size, Nat.lt_of_lt_of_le hbp hVW.size⟩
            have HROW : Hid ((row (B (T - 1 - t0)) n)[ts.length]! = B (T - 1 - t0) j) := by show _ = _; rw [hts, row_get hltj]
            have HI5 := hide TI
            have HTS := hide hts
            have HGV := hide hGV
            have HGW := hide hGW
            clear hlj
            clear TI hts hVW hGV hGW hbl hcg0 hGl hla hlc k0 hA hmp htl hpa hbp hltP
            go_wp2_with fail
            refine wp_region_till (fun w' : World => (w'.cell? ⟨bx, 0, none⟩ = some (.slice sf.a n sf.c) ∧ w'.cell? ⟨bx, 1, none⟩ = some (.slice (some ⟨bp, op, none⟩) n sp.c) ∧ w'.cell? ⟨bx, 2, none⟩ = some (.slice sg.a n sg.c)) ∧ w'.cell? ⟨GO, t0, none⟩ = some (.slice la ts.length lc) ∧ w'.cell? ⟨bp, op + j, none⟩ = some (.slice mp.a n mp.c)) 17 (by kernel_rfl) ?_
            have bd0 : Below wr.heap.size wr wr.drew := (Below.refl _ _).drew
            have hC0 : (fun w' : World => (w'.cell? ⟨bx, 0, none⟩ = some (.slice sf.a n sf.c) ∧ w'.cell? ⟨bx, 1, none⟩ = some (.slice (some ⟨bp, op, none⟩) n sp.c) ∧ w'.cell? ⟨bx, 2, none⟩ = some (.slice sg.a n sg.c)) ∧ w'.cell? ⟨GO, t0, none⟩ = some (.slice la ts.length lc) ∧ w'.cell? ⟨bp, op + j, none⟩ = some (.slice mp.a n mp.c)) wr.drew := unhide HCC _ bd0
            refine wpTill_pure (i := 0) (v := ?_) rfl (by kernel_rfl) (by kernel_rfl) (by kernel_rfl) (by kernel_rfl) (fun _ _ _ h => h) (Or.inl ⟨by rfl, ?_⟩) (fun _ => hC0) ?_
            rotate_left
            · intro w hSw; clear hSw; go_simp; (try with_reducible rfl)
            (try simp only [List.getElem_toArray, List.getElem_cons_succ, List.getElem_cons_zero])
            (try simp only [Act.put, List.setIfInBounds_toArray, List.set_cons_zero, List.set_cons_succ])
            refine wpTill_pure (i := 1) (v := ?_) rfl (by kernel_rfl) (by kernel_rfl) (by kernel_rfl) (by kernel_rfl) (fun _ _ _ h => h) (Or.inl ⟨by rfl, ?_⟩) (fun _ => hC0) ?_
            rotate_left
            · intro w hSw; clear hSw; go_simp; (try with_reducible rfl)
            (try simp only [List.getElem_toArray, List.getElem_cons_succ, List.getElem_cons_zero])
            (try simp only [Act.put, List.setIfInBounds_toArray, List.set_cons_zero, List.set_cons_succ])
            refine wpTill_pure (i := 2) (v := ?_) rfl (by kernel_rfl) (by kernel_rfl) (by kernel_rfl) (by kernel_rfl) (fun _ _ _ h => h) (Or.inl ⟨by rfl, ?_⟩) (fun _ => hC0) ?_
            rotate_left
            · intro w hSw; clear hSw; go_simp; (try with_reducible rfl)
            (try simp only [List.getElem_toArray, List.getElem_cons_succ, List.getElem_cons_zero])
            (try simp only [Act.put, List.setIfInBounds_toArray, List.set_cons_zero, List.set_cons_succ])
            refine wpTill_pure (i := 3) (v := ?_) rfl (by kernel_rfl) (by kernel_rfl) (by kernel_rfl) (by kernel_rfl) (fun _ _ _ h => h) (Or.inl ⟨by rfl, ?_⟩) (fun _ => hC0) ?_
            rotate_left
            · intro w hSw; clear hSw; go_simp; (try with_reducible rfl)
            (try simp only [List.getElem_toArray, List.getElem_cons_succ, List.getElem_cons_zero])
            (try simp only [Act.put, List.setIfInBounds_toArray, List.set_cons_zero, List.set_cons_succ])
            refine wpTill_pure (i := 4) (v := ?_) rfl (by kernel_rfl) (by kernel_rfl) (by kernel_rfl) (by kernel_rfl) (fun _ _ _ h => h) (Or.inl ⟨by rfl, ?_⟩) (fun _ => hC0) ?_
            rotate_left
            · intro w hSw; clear hSw; go_simp; (try with_reducible rfl)
            (try simp only [List.getElem_toArray, List.getElem_cons_succ, List.getElem_cons_zero])
            (try simp only [Act.put, List.setIfInBounds_toArray, List.set_cons_zero, List.set_cons_succ])
            refine wpTill_take (i := 5) (v := ?_) rfl (by kernel_rfl) (by kernel_rfl) (by kernel_rfl) (by kernel_rfl) (by kernel_rfl) (by kernel_rfl) (fun _ _ _ h => h) (Or.inl ⟨by rfl, ?_⟩) hC0 ?_
            rotate_left
            · intro w hSw; (try dsimp only at hSw); obtain ⟨⟨u0, u1, u2⟩, u3, u4⟩ := hSw; go_simp; (try with_reducible rfl)
            (try simp only [List.getElem_toArray, List.getElem_cons_succ, List.getElem_cons_zero])
            (try simp only [Act.put, List.setIfInBounds_toArray, List.set_cons_zero, List.set_cons_succ])
            refine wpTill_pure (i := 6) (v := ?_) rfl (by kernel_rfl) (by kernel_rfl) (by kernel_rfl) (by kernel_rfl) (fun _ _ _ h => h) (Or.inl ⟨by rfl, ?_⟩) (fun _ => hC0) ?_
            rotate_left
            · intro w hSw; clear hSw; go_simp; (try with_reducible rfl)
            (try simp only [List.getElem_toArray, List.getElem_cons_succ, List.getElem_cons_zero])
            (try simp only [Act.put, List.setIfInBounds_toArray, List.set_cons_zero, List.set_cons_succ])
            refine wpTill_pure (i := 7) (v := ?_) rfl (by kernel_rfl) (by kernel_rfl) (by kernel_rfl) (by kernel_rfl) (fun _ _ _ h => h) (Or.inl ⟨by rfl, ?_⟩) (fun _ => hC0) ?_
            rotate_left
            · intro w hSw; clear hSw; go_simp; (try with_reducible rfl)
            (try simp only [List.getElem_toArray, List.getElem_cons_succ, List.getElem_cons_zero])
            (try simp only [Act.put, List.setIfInBounds_toArray, List.set_cons_zero, List.set_cons_succ])
            refine wpTill_take (i := 8) (v := ?_) rfl (by kernel_rfl) (by kernel_rfl) (by kernel_rfl) (by kernel_rfl) (by kernel_rfl) (by kernel_rfl) (fun _ _ _ h => h) (Or.inl ⟨by rfl, ?_⟩) hC0 ?_
            rotate_left
            · intro w hSw; (try dsimp only at hSw); obtain ⟨⟨u0, u1, u2⟩, u3, u4⟩ := hSw; go_simp; (try with_reducible rfl)
            (try simp only [List.getElem_toArray, List.getElem_cons_succ, List.getElem_cons_zero])
            (try simp only [Act.put, List.setIfInBounds_toArray, List.set_cons_zero, List.set_cons_succ])
            refine wpTill_pure (i := 9) (v := ?_) rfl (by kernel_rfl) (by kernel_rfl) (by kernel_rfl) (by kernel_rfl) (fun _ _ _ h => h) (Or.inl ⟨by rfl, ?_⟩) (fun _ => hC0) ?_
            rotate_left
            · intro w hSw; clear hSw; go_simp; (try with_reducible rfl)
            (try simp only [List.getElem_toArray, List.getElem_cons_succ, List.getElem_cons_zero])
            (try simp only [Act.put, List.setIfInBounds_toArray, List.set_cons_zero, List.set_cons_succ])
            refine wpTill_pure (i := 10) (v := ?_) rfl (by kernel_rfl) (by kernel_rfl) (by kernel_rfl) (by kernel_rfl) (fun _ _ _ h => h) (Or.inl ⟨by rfl, ?_⟩) (fun _ => hC0) ?_
            rotate_left
            · intro w hSw; clear hSw; go_simp; (try with_reducible rfl)
            (try simp only [List.getElem_toArray, List.getElem_cons_succ, List.getElem_cons_zero])
            (try simp only [Act.put, List.setIfInBounds_toArray, List.set_cons_zero, List.set_cons_succ])
            refine wpTill_take (i := 11) (v := ?_) rfl (by kernel_rfl) (by kernel_rfl) (by kernel_rfl) (by kernel_rfl) (by kernel_rfl) (by kernel_rfl) (fun _ _ _ h => h) (Or.inl ⟨by rfl, ?_⟩) hC0 ?_
            rotate_left
            · intro w hSw; (try dsimp only at hSw); obtain ⟨⟨u0, u1, u2⟩, u3, u4⟩ := hSw; go_simp; (try with_reducible rfl)
            (try simp only [List.getElem_toArray, List.getElem_cons_succ, List.getElem_cons_zero])
            (try simp only [Act.put, List.setIfInBounds_toArray, List.set_cons_zero, List.set_cons_succ])
            refine wpTill_pure (i := 12) (v := ?_) rfl (by kernel_rfl) (by kernel_rfl) (by kernel_rfl) (by kernel_rfl) (fun _ _ _ h => h) (Or.inl ⟨by rfl, ?_⟩) (fun _ => hC0) ?_
            rotate_left
            · intro w hSw; clear hSw; go_simp; (try with_reducible rfl)
            (try simp only [List.getElem_toArray, List.getElem_cons_succ, List.getElem_cons_zero])
            (try simp only [Act.put, List.setIfInBounds_toArray, List.set_cons_zero, List.set_cons_succ])
            refine wpTill_one (k := 13) (by kernel_rfl) rfl (fun K hK => ?_)
            (try simp only [List.getElem_toArray, List.getElem_cons_succ, List.getElem_cons_zero])
            go_simp
            refine (unhide HOV _ bd0).mono ?_
            rintro e xw_1 ⟨xv_1, rfl, hv_1, hb_1⟩
            have cc_1 := below_step bd0 hb_1
            have hC_1 : (fun w' : World => (w'.cell? ⟨bx, 0, none⟩ = some (.slice sf.a n sf.c) ∧ w'.cell? ⟨bx, 1, none⟩ = some (.slice (some ⟨bp, op, none⟩) n sp.c) ∧ w'.cell? ⟨bx, 2, none⟩ = some (.slice sg.a n sg.c)) ∧ w'.cell? ⟨GO, t0, none⟩ = some (.slice la ts.length lc) ∧ w'.cell? ⟨bp, op + j, none⟩ = some (.slice mp.a n mp.c)) xw_1 := unhide HCC _ cc_1
            refine hK.out _ _ (fun _ => hC_1) ?_
            clear hK K
            (try simp only [Act.put, List.setIfInBounds_toArray, List.set_cons_zero, List.set_cons_succ])
            obtain ⟨t1, rfl, r1⟩ := tri_of hv_1
            simp only [Tri.val]
            have b3 := alloc_below xw_1 (.cells #[.bool t1.s, .slice t1.a1 t1.n1 t1.c1, .slice t1.a2 t1.n2 t1.c2] 26)
            have cc3 := below_step cc_1 b3
            have hC3 : (fun w' : World => (w'.cell? ⟨bx, 0, none⟩ = some (.slice sf.a n sf.c) ∧ w'.cell? ⟨bx, 1, none⟩ = some (.slice (some ⟨bp, op, none⟩) n sp.c) ∧ w'.cell? ⟨bx, 2, none⟩ = some (.slice sg.a n sg.c)) ∧ w'.cell? ⟨GO, t0, none⟩ = some (.slice la ts.length lc) ∧ w'.cell? ⟨bp, op + j, none⟩ = some (.slice mp.a n mp.c)) (xw_1.alloc (.cells #[.bool t1.s, .slice t1.a1 t1.n1 t1.c1, .slice t1.a2 t1.n2 t1.c2] 26)) := unhide HCC _ cc3
            refine wpTill_one (k := 14) (by kernel_rfl) rfl (fun K hK => ?_)
            (try simp only [List.getElem_toArray, List.getElem_cons_succ, List.getElem_cons_zero])
            go_simp
            refine hK.out _ _ (fun _ => hC3) ?_
            clear hK K
            (try simp only [Act.put, List.setIfInBounds_toArray, List.set_cons_zero, List.set_cons_succ])
            have T11 := (unhide HI5).keep cc3
            have r3 := r1.below b3
            have hsz : (xw_1.alloc (.cells #[.bool t1.s, .slice t1.a1 t1.n1 t1.c1, .slice t1.a2 t1.n2 t1.c2] 26)).heap.size = xw_1.heap.size + 1 := by rw [alloc_heap, Array.size_push]
            have hlen56 : (ts.length + 1) * 56 ≤ 140737488355328 := by have := unhide HTS; omega
            have hlen63 : ts.length + 1 ≤ maxLen := by have := unhide HTS; unfold maxLen; omega
            have hown := T11.fs.own
            have hnoo := T11.fs.no
            have hle := T11.fr.size
            rw [unhide HLS] at hown hnoo
            simp only [Sl.val] at hown hnoo
            refine wpTill_one (k := 15) (by kernel_rfl) rfl (fun K hK => ?_)
            refine step_append_tri _ rfl _ _ _ rfl V.heap.size 26 ti 56 Tryz.underlying41 (unhide HII) (unhide HZ) hz1 hz2 _ ts.length (tcells ts) rfl hown hnoo ⟨xw_1.heap.size, 0, none⟩ 1 1 t1.cells rfl rfl (news_tri xw_1 t1 _) (tri_one t1) t1.notWord (by decide) hlen63 hlen56 hle (xw_1.heap.size + 1) hsz ?_
            intro g cap w4 hown4 hgrow hat hlt4 hno4
            have hgrow' : (xw_1.alloc (.cells #[.bool t1.s, .slice t1.a1 t1.n1 t1.c1, .slice t1.a2 t1.n2 t1.c2] 26)).grownBy w4 ((ls' t0).val).ownBlock := by rw [unhide HLS]; exact hgrow
            have hu1 : RatIs (xw_1.alloc (.cells #[.bool t1.s, .slice t1.a1 t1.n1 t1.c1, .slice t1.a2 t1.n2 t1.c2] 26)) t1.val (row (B (T - 1 - t0)) n)[ts.length]! := by rw [unhide HROW]; exact r3
            have FZ := T11.push (unhide HGV) (unhide HGW) (unhide HT0) hu1 hown4 hgrow' hno4
            have hlo : ∀ k, ((ls' t0).val).ownBlock = some k → V.heap.size ≤ k := fun k hk => (ownsR_block T11.fs.own k hk).1
            have hC4 : (fun w' : World => (w'.cell? ⟨bx, 0, none⟩ = some (.slice sf.a n sf.c) ∧ w'.cell? ⟨bx, 1, none⟩ = some (.slice (some ⟨bp, op, none⟩) n sp.c) ∧ w'.cell? ⟨bx, 2, none⟩ = some (.slice sg.a n sg.c)) ∧ w'.cell? ⟨GO, t0, none⟩ = some (.slice la ts.length lc) ∧ w'.cell? ⟨bp, op + j, none⟩ = some (.slice mp.a n mp.c)) w4 := by
              have q := unhide HLOW
              have far : ∀ (b i : Nat), b < V.heap.size → w4.cell? ⟨b, i, none⟩ = (xw_1.alloc (.cells #[.bool t1.s, .slice t1.a1 t1.n1 t1.c1, .slice t1.a2 t1.n2 t1.c2] 26)).cell? ⟨b, i, none⟩ := fun b i hb => hgrow'.cell_far ⟨b, i, none⟩ (Nat.lt_of_lt_of_le hb hle) (fun e => by have := hlo b e.symm; omega)
              obtain ⟨⟨p0, p1, p2⟩, p3, p4⟩ := hC3
              refine ⟨⟨?_, ?_, ?_⟩, ?_, ?_⟩
              · rw [far _ _ q.1]; exact p0
              · rw [far _ _ q.1]; exact p1
              · rw [far _ _ q.1]; exact p2
              · rw [far _ _ (unhide HGV)]; exact p3
              · rw [far _ _ q.2]; exact p4
            refine hK.out _ _ (fun _ => hC4) ?_
            clear hK K
            (try simp only [Act.put, List.setIfInBounds_toArray, List.set_cons_zero, List.set_cons_succ])
            refine wpTill_pure (i := 16) (v := ?_) rfl (by kernel_rfl) (by kernel_rfl) (by kernel_rfl) (by kernel_rfl) (fun _ _ _ h => h) (Or.inl ⟨by rfl, ?_⟩) (fun _ => hC4) ?_
            rotate_left
            · intro w hSw; clear hSw; go_simp; (try with_reducible rfl)
            (try simp only [List.getElem_toArray, List.getElem_cons_succ, List.getElem_cons_zero])
            (try simp only [Act.put, List.setIfInBounds_toArray, List.set_cons_zero, List.set_cons_succ])
            have hd4 : w4.heap[GO]? = some (.cells (hdl T T ls').toArray 41) := by
              rw [hgrow'.block GO (Array.getElem?_eq_some_iff.1 T11.hd).1 (fun e => by have := hlo GO e.symm; have := unhide HGV; omega)]; exact T11.hd
            have yf := hdl_free hd4 t0
            have yc : w4.cell? ⟨GO, t0, none⟩ = some (.slice la ts.length lc) := hC4.2.1
            obtain ⟨W9, hW9⟩ : ∃ W, w4.setCell ⟨GO, t0, none⟩ (.slice (some ⟨g, 0, none⟩) (ts.length + 1) cap) = W := ⟨_, rfl⟩
            have HFZ : Hid (EndI W0 V W9 GO T t0 ls (upl ls' t0 (some ⟨g, 0, none⟩, ts.length + 1, cap)) (ts ++ [t1]) (row (B (T - 1 - t0)) n)) := by rw [← hW9]; exact FZ
            clear T11 FZ hu1 hown4 hgrow hgrow' hat hno4 hlo hd4 r1 r3 hv_1
            refine wpTill_one (k := 17) (by kernel_rfl) rfl (fun K hK => ?_)
            (try simp only [List.getElem_toArray, List.getElem_cons_succ, List.getElem_cons_zero])
            go_simp
            refine hK.out _ _ (fun h => absurd (h.symm.trans (by kernel_rfl)) Bool.false_ne_true) ?_
            clear hK K
            (try simp only [Act.put, List.setIfInBounds_toArray, List.set_cons_zero, List.set_cons_succ])
            refine wpTill_done (by kernel_rfl) ?_ _
            clear HCC HOV
            clear yf yc hW9 hC0 hC_1 hC3 hC4 cc_1 cc3 bd0 hb_1 b3 hsz hlen56 hlen63 hown hnoo hle
            go_wp2_with fail
            exact ⟨⟨j + 1, _, _, by go_num, hltj, by rw [List.length_append]; have := unhide HTS; simp; omega, unhide HFZ⟩, by simp [intOf]; omega⟩
          · obtain rfl : j = n := by omega
            have j1 : ¬ (j : Int) < (j : Int) := by omega
            have HFZ := hide (TI.done (unhide HV) (unhide HT0) hts)
            clear TI hts
            have e9 : IntKind.i64.wrap ((t0 : Int) - 1) = (t0 : Int) - 1 := by rw [IntKind.wrap_i64]; omega
            go_wp2_with fail
            exact ⟨⟨t0, _, rfl, by have := unhide HT0; omega, unhide HFZ⟩, by simp [intOf] <;> omega⟩
    · obtain rfl : t = 0 := by omega
      have f0 : ¬ (0 : Int) ≤ ((0 : Nat) : Int) - 1 := by omega
      have HRW := hide ((S.hd.rowsFr (ks := mrows T n (fun i => B (T - 1 - i))) (mrows_length _ _ _) hT (fun i hi => by rw [mrows_get hi]; exact S.law i (Nat.zero_le _) hi) (fun i hi => S.fr i (Nat.zero_le _) hi)).mono (unhide HB0).size)
      have HB := hide (below_step (unhide HB0) S.hd.bl)
      clear S
      go_wp2
      go_ret
      exact ⟨GO, rfl, unhide HRW, unhide HB⟩

end Go.Proofs.YtfnbjenneodcdaaGreatDoor
