/- What the program's Run does is what the server does second by second: states. -/
import Derived.Test.YteflciddadjilaaDoorP6
namespace Go.Proofs.YteflciddadjilaaDoor
open Go.RowKit Go.Sort Sim

/-- Jobs as the maths has them. -/
def qOf (n : Nat) (f : Nat → T3) (r : Nat) : Q := ⟨n, fun i => (f i).1.toNat, fun i => (f i).2.1.toNat, fun i => (f i).2.2.toNat, r⟩
def pcT (p : Pc) : T3 := ((p.1 : Int), (p.2.1 : Int), (p.2.2 : Int))
def pcsT (ps : List Pc) : List T3 := ps.map pcT
theorem pcsT_length (ps : List Pc) : (pcsT ps).length = ps.length := by simp [pcsT]
theorem joinT_pcsT (ps : List Pc) (p : Pc) : joinT (pcsT ps) (pcT p) = pcsT (joinP ps p) := by
  rcases snoc_cases ps with rfl | ⟨qs, l, rfl⟩
  · rfl
  · have e : pcsT (qs ++ [l]) = pcsT qs ++ [pcT l] := by simp [pcsT]
    rw [e, joinT_last, joinP_last]
    by_cases c : l.1 = p.1 ∧ l.2.2 = p.2.1
    · have c' : (pcT l).1 = (pcT p).1 ∧ (pcT l).2.2 = (pcT p).2.1 := by
        show (l.1 : Int) = (p.1 : Int) ∧ (l.2.2 : Int) = (p.2.1 : Int)
        omega
      rw [if_pos c, if_pos c']
      simp [pcsT, pcT]
    · have c' : ¬ ((pcT l).1 = (pcT p).1 ∧ (pcT l).2.2 = (pcT p).2.1) := by
        show ¬ ((l.1 : Int) = (p.1 : Int) ∧ (l.2.2 : Int) = (p.2.1 : Int))
        omega
      rw [if_neg c, if_neg c']
      simp [pcsT]

theorem OwnP_base {w : World} {B B' : Nat} {v : Value} {ps : List T3} (h : OwnP w B v ps) (hb : B' ≤ B) : OwnP w B' v ps := by
  refine ⟨h.1, ?_⟩
  rcases h.2 with h | ⟨g, cap, cur, hv, hg, h1⟩
  · exact Or.inl h
  · exact Or.inr ⟨g, cap, cur, hv, Nat.le_trans hb hg, h1⟩

theorem ps_short (q : Q) : ∀ t, (sim q t).ps.length ≤ t
  | 0 => Nat.le_refl _
  | t + 1 => by
    have ih := ps_short q t
    cases e : choice q (sim q t) t with
    | none => rw [(sim_none e).2.1]; omega
    | some j =>
      rw [(sim_some e).2.1]
      have := joinT_length (pcsT (sim q t).ps) (pcT (j, t, t + 1))
      rw [joinT_pcsT, pcsT_length, pcsT_length] at this
      omega

/-- What Run has laid ahead of its loop. -/
structure Stat (w W0 : World) (a : Option Addr) (n c : Nat) (f : Nat → T3) (r G B1 B2 fk : Nat) (caps : Array Value) : Prop where
  trow : TRow w a n c f
  gi : ∃ L, OwnI W0 G n L
  box1 : W0.cell? ⟨B1, 0, none⟩ = some (.slice (some ⟨G, 0, none⟩) n n)
  box2 : W0.cell? ⟨B2, 0, none⟩ = some (.func (.func fk) #[] caps)
  rank : RankBox W0 r a n c G fk caps
  gl : w.heap.size ≤ G
  bl : Below w.heap.size w W0

/-- What is as it was but for block G and new ones. -/
structure Dyn (W0 wr : World) (G : Nat) : Prop where
  os : wr.os = W0.os
  tape : wr.tape = W0.tape
  output : wr.output = W0.output
  size : W0.heap.size ≤ wr.heap.size
  blk : ∀ k, k < W0.heap.size → k ≠ G → wr.heap[k]? = W0.heap[k]?

theorem Dyn.refl (W0 : World) (G : Nat) : Dyn W0 W0 G := ⟨rfl, rfl, rfl, Nat.le_refl _, fun _ _ _ => rfl⟩
theorem Dyn.below {W0 wr w' : World} {G : Nat} (h : Dyn W0 wr G) (hb : Below wr.heap.size wr w') : Dyn W0 w' G :=
  ⟨by rw [hb.os, h.os], by rw [hb.tape, h.tape], by rw [hb.output, h.output], Nat.le_trans h.size hb.size, fun k hk hg => by rw [hb.block k (Nat.lt_of_lt_of_le hk h.size)]; exact h.blk k hk hg⟩
theorem Dyn.set {W0 wr : World} {G : Nat} (h : Dyn W0 wr G) (j : Nat) (u : Value) : Dyn W0 (wr.setCell ⟨G, j, none⟩ u) G := by
  have g := grown_set wr G j u
  exact ⟨by rw [g.os, h.os], by rw [g.tape, h.tape], by rw [g.output, h.output], Nat.le_trans h.size g.size, fun k hk hg => by rw [g.block k (Nat.lt_of_lt_of_le hk h.size) (fun e => hg (Option.some.inj e))]; exact h.blk k hk hg⟩
theorem Dyn.grown {W0 wr w' : World} {G : Nat} {row : Option Nat} (h : Dyn W0 wr G) (g : wr.grownBy w' row) (hr : ∀ k, row = some k → W0.heap.size ≤ k) : Dyn W0 w' G :=
  ⟨by rw [g.os, h.os], by rw [g.tape, h.tape], by rw [g.output, h.output], Nat.le_trans h.size g.size, fun k hk hg => by rw [g.block k (Nat.lt_of_lt_of_le hk h.size) (fun e => by have := hr k e.symm; omega)]; exact h.blk k hk hg⟩
theorem Dyn.all {w W0 wr : World} {a : Option Addr} {n c : Nat} {f : Nat → T3} {r G B1 B2 fk : Nat} {caps : Array Value} (h : Dyn W0 wr G) (s : Stat w W0 a n c f r G B1 B2 fk caps) : Below w.heap.size w wr :=
  s.bl.trans ⟨h.os, h.tape, h.output, h.size, fun k hk => h.blk k (Nat.lt_of_lt_of_le hk s.bl.size) (by have := s.gl; omega)⟩
theorem Stat.ne {w W0 : World} {a : Option Addr} {n c : Nat} {f : Nat → T3} {r G B1 B2 fk : Nat} {caps : Array Value} (s : Stat w W0 a n c f r G B1 B2 fk caps) {B : Nat} {u : Value} (hu : W0.cell? ⟨B, 0, none⟩ = some u) (hi : ∀ x, u ≠ .int .i64 x) : B ≠ G := by
  intro e
  subst e
  obtain ⟨L, hL⟩ := s.gi
  by_cases hn : 0 < n
  · rw [hL.cell hn] at hu
    exact hi _ (Option.some.inj hu).symm
  · unfold OwnI at hL
    simp only [World.cell?, hL] at hu
    rw [show n = 0 by omega] at hu
    cases hu
theorem Dyn.cell {w W0 wr : World} {a : Option Addr} {n c : Nat} {f : Nat → T3} {r G B1 B2 fk : Nat} {caps : Array Value} (h : Dyn W0 wr G) (s : Stat w W0 a n c f r G B1 B2 fk caps) {B : Nat} {u : Value} (hu : W0.cell? ⟨B, 0, none⟩ = some u) (hi : ∀ x, u ≠ .int .i64 x) : wr.cell? ⟨B, 0, none⟩ = some u := by
  rw [World.cell?_of_block (w := W0) (a := ⟨B, 0, none⟩) (h.blk B (World.block_lt_of_cell? W0 ⟨B, 0, none⟩ hu) (s.ne hu hi))]
  exact hu
theorem Dyn.rank {w W0 wr : World} {a : Option Addr} {n c : Nat} {f : Nat → T3} {r G B1 B2 fk : Nat} {caps : Array Value} (h : Dyn W0 wr G) (s : Stat w W0 a n c f r G B1 B2 fk caps) : RankBox wr r a n c G fk caps :=
  s.rank.keep fun _ _ _ _ hu => h.cell s hu (fun _ e => by cases e)

/-- The loop's state. -/
structure RunAt (w W0 wr : World) (n : Nat) (f : Nat → T3) (r G : Nat) (t came : Nat) (v : Value) : Prop where
  dyn : Dyn W0 wr G
  left : OwnI wr G n (fun j => ((sim (qOf n f r) t).lf j : Int))
  own : OwnP wr W0.heap.size v (pcsT (sim (qOf n f r) t).ps)
  few : came ≤ n
  come : ∀ i, i < came → (f i).1.toNat ≤ t
  on : ∀ j, (sim (qOf n f r) t).on = some j → r ≤ 4 → (sim (qOf n f r) t).lf j = 0
  fits : t + nsum (sim (qOf n f r) t).lf n ≤ 1000000000 + nsum (qOf n f r).S n

theorem RunAt.keep {w W0 wr w' : World} {n : Nat} {f : Nat → T3} {r G t came : Nat} {v : Value} (h : RunAt w W0 wr n f r G t came v) (hb : Below wr.heap.size wr w') : RunAt w W0 w' n f r G t came v :=
  ⟨h.dyn.below hb, h.left.keep hb, h.own.keep hb, h.few, h.come, h.on, h.fits⟩
theorem RunAt.more {w W0 wr : World} {n : Nat} {f : Nat → T3} {r G t came : Nat} {v : Value} (h : RunAt w W0 wr n f r G t came v) (hc : came < n) (ha : (f came).1.toNat ≤ t) : RunAt w W0 wr n f r G t (came + 1) v :=
  ⟨h.dyn, h.left, h.own, hc, fun i hi => by
    rcases Nat.lt_or_ge i came with c | c
    · exact h.come i c
    · rw [show i = came by omega]; exact ha, h.on, h.fits⟩

theorem sizes_fit {n : Nat} {f : Nat → T3} (hg : Good n f) (r : Nat) : nsum (qOf n f r).S n ≤ 60000000000 := by
  have h1 : nsum (qOf n f r).S n ≤ nsum (fun _ => 1000000000) n := nsum_le fun i hi => by
    have := (hg.size i hi).2
    show (f i).2.1.toNat ≤ 1000000000
    omega
  have h2 : ∀ m, nsum (fun _ => 1000000000) m = m * 1000000000 := fun m => by
    induction m with
    | zero => rfl
    | succ m ih => show nsum _ m + 1000000000 = _; rw [ih]; omega
  rw [h2] at h1
  have := hg.few
  omega
theorem RunAt.time {w W0 wr : World} {n : Nat} {f : Nat → T3} {r G t came : Nat} {v : Value} (h : RunAt w W0 wr n f r G t came v) (hg : Good n f) : t ≤ 61000000000 := by
  have := h.fits
  have := sizes_fit hg r
  omega
theorem RunAt.lf_le {w W0 wr : World} {n : Nat} {f : Nat → T3} {r G t came : Nat} {v : Value} (h : RunAt w W0 wr n f r G t came v) (hg : Good n f) {j : Nat} (hj : j < n) : t + (sim (qOf n f r) t).lf j ≤ 61000000000 := by
  have := h.fits
  have := sizes_fit hg r
  have := nsum_ge (f := (sim (qOf n f r) t).lf) hj
  omega

/-- Whom the closure finds is the best one. -/
theorem pk_bst {n : Nat} {f : Nat → T3} (hg : Good n f) {r : Nat} (hr1 : 1 ≤ r) (hr6 : r ≤ 6) {lf : Nat → Nat} {t : Nat} : ∀ {k : Nat}, k ≤ n → (∀ i, i < k → (f i).1.toNat ≤ t) → pk (keyI r f (fun j => (lf j : Int))) (fun j => (lf j : Int)) k = bst (qOf n f r) lf t k
  | 0, _, _ => rfl
  | k + 1, hk, hc => by
    have ih := pk_bst hg hr1 hr6 (lf := lf) (k := k) (by omega) (fun i hi => hc i (by omega))
    have key_eq : ∀ i, i < n → keyI r f (fun j => (lf j : Int)) i = key (qOf n f r) lf i := fun i hi => by
      have := hg.size i hi
      have := hg.cls i hi
      unfold keyI key qOf
      simp only
      split
      · rfl
      · split
        · rfl
        · split
          · omega
          · split
            · rfl
            · omega
    have ha : (qOf n f r).A k ≤ t := hc k (by omega)
    show (match pk _ _ k with | none => _ | some b => _) = (if takes (qOf n f r) lf t k (bst (qOf n f r) lf t k) then some k else bst (qOf n f r) lf t k)
    rw [ih]
    unfold takes
    rw [decide_eq_true ha]
    cases hb : bst (qOf n f r) lf t k with
    | none =>
      by_cases c : 0 < lf k
      · simp [c]
      · simp [c]
    | some b =>
      have hbk : b < k := by rw [hb] at ih; exact pk_lt ih
      simp only [key_eq k (by omega), key_eq b (by omega)]
      by_cases c : 0 < lf k
      · by_cases c2 : key (qOf n f r) lf k < key (qOf n f r) lf b
        · simp [c, c2]
        · simp [c, c2]
      · simp [c]

theorem RunAt.choice {w W0 wr : World} {n : Nat} {f : Nat → T3} {r G t came : Nat} {v : Value} (h : RunAt w W0 wr n f r G t came v) (hg : Good n f) (hr1 : 1 ≤ r) (hr6 : r ≤ 6) (hc : came < n → t < (f came).1.toNat) :
    pk (keyI r f (fun j => ((sim (qOf n f r) t).lf j : Int))) (fun j => ((sim (qOf n f r) t).lf j : Int)) came = choice (qOf n f r) (sim (qOf n f r) t) t := by
  rw [pk_bst hg hr1 hr6 h.few h.come, choice_best h.on]
  refine (bst_came (q := qOf n f r) h.few fun i h1 h2 => ?_).symm
  have h2' : i < n := h2
  have h3 := hc (by omega)
  have h4 := good_mono hg h1 h2'
  show t < (f i).1.toNat
  omega

/-- Nobody is there: on to whoever comes. -/
theorem RunAt.idle {w W0 wr : World} {n : Nat} {f : Nat → T3} {r G t came : Nat} {v : Value} (h : RunAt w W0 wr n f r G t came v) (hg : Good n f) (hc : came < n) (ht : t < (f came).1.toNat) (hch : Sim.choice (qOf n f r) (sim (qOf n f r) t) t = none) :
    RunAt w W0 wr n f r G (f came).1.toNat came v ∧ t < (f came).1.toNat := by
  obtain ⟨d, hd⟩ := Nat.le.dest (Nat.le_of_lt ht)
  have hA : ∀ i, i < n → (f i).1.toNat < t + d → (f i).1.toNat ≤ t := fun i hi hlt => by
    rcases Nat.lt_or_ge i came with c | c
    · exact h.come i c
    · have := good_mono hg c hi
      omega
  have e := sim_idle (q := qOf n f r) (t := t) (none_left hch) h.on d (by omega) hA
  have h1 := (hg.at0 came hc).2
  have h2 := cnt_lf (qOf n f r) t
  rw [← hd]
  refine ⟨⟨h.dyn, ?_, ?_, h.few, fun i hi => ?_, ?_, ?_⟩, by omega⟩
  · rw [e]; exact h.left
  · rw [e]; exact h.own
  · have := h.come i hi; omega
  · rw [e]; intro j hj; cases hj
  · rw [e]
    have h2' : cnt (qOf n f r) t + nsum (sim (qOf n f r) t).lf n = nsum (qOf n f r).S n := h2
    show t + d + nsum (sim (qOf n f r) t).lf n ≤ _
    omega

/-- A job is served for d seconds. -/
theorem RunAt.serve {w W0 wr w2 w3 : World} {n : Nat} {f : Nat → T3} {r G t came j d : Nat} {v v' : Value} (h : RunAt w W0 wr n f r G t came v) (hg : Good n f) (hch : Sim.choice (qOf n f r) (sim (qOf n f r) t) t = some j)
    (hd0 : 0 < d) (hd : d ≤ (sim (qOf n f r) t).lf j) (hd4 : r ≤ 4 → d = (sim (qOf n f r) t).lf j) (hd5 : 4 < r → came < n → t + d ≤ (f came).1.toNat)
    (hw2 : RunAt w W0 w2 n f r G t came v) (e2 : w2.setCell ⟨G, j, none⟩ (.int .i64 (((sim (qOf n f r) t).lf j : Int) - (d : Int))) = w3) :
    (OwnP w3 W0.heap.size v (pcsT (sim (qOf n f r) t).ps) ∧ W0.heap.size ≤ w3.heap.size) ∧
    ∀ w4 w5, Below w3.heap.size w3 w4 → OwnP w5 W0.heap.size v' (joinT (pcsT (sim (qOf n f r) t).ps) ((j : Int), (t : Int), ((t + d : Nat) : Int))) → w4.grownBy w5 v.ownBlock → RunAt w W0 w5 n f r G (t + d) came v' := by
  subst e2
  have hjn : j < n := (left_pos hch).2
  have hA : r ≤ 4 ∨ (∀ i, i < (qOf n f r).N → (qOf n f r).A i < t + d → (qOf n f r).A i ≤ t) := by
    by_cases c : r ≤ 4
    · exact Or.inl c
    · refine Or.inr fun i hi hlt => ?_
      show (f i).1.toNat ≤ t
      have hlt' : (f i).1.toNat < t + d := hlt
      have hi' : i < n := hi
      rcases Nat.lt_or_ge i came with c' | c'
      · exact h.come i c'
      · have := good_mono hg c' hi
        have := hd5 (by omega) (by omega)
        omega
  have e := sim_serve (q := qOf n f r) hch d hd hd0 hA
  have hG : G < W0.heap.size ∨ W0.heap.size ≤ G := by omega
  have own3 : OwnP (w2.setCell ⟨G, j, none⟩ (.int .i64 (((sim (qOf n f r) t).lf j : Int) - (d : Int)))) W0.heap.size v (pcsT (sim (qOf n f r) t).ps) := by
    refine ⟨hw2.own.1, ?_⟩
    rcases hw2.own.2 with h' | ⟨g, cap, cur, hv, hb, hh, h1⟩
    · exact Or.inl h'
    · refine Or.inr ⟨g, cap, cur, hv, hb, ?_, h1⟩
      rw [Below.heap_setCell _ _ _ _ (fun e => by
        have h2 := hw2.left
        unfold OwnI at h2
        have e' : g = G := e
        rw [← e', hh] at h2
        injection h2 with h3
        injection h3 with _ h4
        exact absurd h4 (by decide))]
      exact hh
  refine ⟨⟨own3, ((hw2.dyn.set j _)).size⟩, fun w4 w5 hb4 hown hgr => ?_⟩
  have hrow : ∀ k, v.ownBlock = some k → W0.heap.size ≤ k := fun k hk => by
    rcases hw2.own.2 with ⟨rfl, _⟩ | ⟨g, cap, cur, rfl, hb, _⟩
    · cases hk
    · obtain rfl : g = k := Option.some.inj hk
      exact hb
  have hO4 : OwnI w4 G n (updI (fun j => ((sim (qOf n f r) t).lf j : Int)) j (((sim (qOf n f r) t).lf j : Int) - (d : Int))) := (hw2.left.set j _).keep hb4
  have hGv : v.ownBlock ≠ some G := by
    intro hk
    rcases hw2.own.2 with ⟨rfl, _⟩ | ⟨g, cap, cur, rfl, hb, hh, _⟩
    · cases hk
    · obtain rfl : g = G := Option.some.inj hk
      have h2 := hw2.left
      unfold OwnI at h2
      rw [hh] at h2
      injection h2 with h3
      injection h3 with _ h4
      exact absurd h4 (by decide)
  refine ⟨((hw2.dyn.set j _).below hb4).grown hgr hrow, ?_, ?_, h.few, fun i hi => ?_, ?_, ?_⟩
  · have h5 : OwnI w5 G n (updI (fun j => ((sim (qOf n f r) t).lf j : Int)) j (((sim (qOf n f r) t).lf j : Int) - (d : Int))) := by
      unfold OwnI
      rw [hgr.block G hO4.lt (fun e => hGv e.symm)]
      exact hO4
    refine h5.congr fun i hi => ?_
    rw [e]
    unfold updI upd
    simp only
    split <;> omega
  · rw [e]
    have := joinT_pcsT (sim (qOf n f r) t).ps (j, t, t + d)
    rw [← this]
    exact hown
  · have := h.come i hi; omega
  · rw [e]
    intro k hk h4
    obtain rfl : j = k := Option.some.inj hk
    show upd _ _ _ _ = 0
    rw [upd_at, ← hd4 h4]
    omega
  · rw [e]
    have := nsum_one (f := upd (sim (qOf n f r) t).lf j ((sim (qOf n f r) t).lf j - d)) (g := (sim (qOf n f r) t).lf) hjn (fun i _ he => upd_off _ _ he)
    rw [upd_at] at this
    have := h.fits
    show t + d + nsum (upd _ _ _) n ≤ _
    omega
end Go.Proofs.YteflciddadjilaaDoor
