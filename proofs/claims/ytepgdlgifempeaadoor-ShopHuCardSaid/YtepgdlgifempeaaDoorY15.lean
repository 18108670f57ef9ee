/- A list on several machines. -/
import Derived.Test.YtepgdlgifempeaaDoorY7
import Derived.Test.YtepgdlgifempeaaDoorY14
namespace Go.Proofs.YtepgdlgifempeaaDoor
open Go.RowKit Go.Sort Stb Shp Hp

theorem make_parts (k : Nat) (h1 : k ≤ 1000) (w : World) : ∃ cs : Array Value, cs.size = k * 4 ∧
    (Instr.makeSlice 44 (.int .i64 0) (.int .i64 (k : Int))).run Tryd.prog w = .ok (.slice (some ⟨w.heap.size, 0, none⟩) 0 k) (w.alloc (.cells cs 73)) := by
  obtain ⟨i, hi, hz0, hz1, hz2⟩ := info_parts Tryd.infoQ
  refine ⟨madeCells (Value.agg #[.int .i64 0, .int .i64 0, .int .i64 0, .int .i64 0]).cells ((k : Int).toNat * i.size), ?_, ?_⟩
  · rw [hz1]; simp [madeCells]
  · rw [run_make w 44 73 i (.agg #[.int .i64 0, .int .i64 0, .int .i64 0, .int .i64 0]) Tryd.underlying44 hi hz0 .i64 .i64 0 k (by omega) (by omega) (by rw [hz2]; omega) (by omega)]
    simp
/-- Parts of a row of numbers, and when machines are free. -/
def lpt (M : Nat) (l : Nat → Int) (r : Nat → Int) (k : Nat) : List Prt := prts M l zer (rl r k)
def lld (M : Nat) (l : Nat → Int) (r : Nat → Int) (k : Nat) : Nat → Int := loads M l zer (rl r k)
theorem lpt_succ (M : Nat) (l : Nat → Int) (r : Nat → Int) (k : Nat) : lpt M l r (k + 1) = lpt M l r k ++ [⟨am (lld M l r k) M, (r k).toNat, lld M l r k (am (lld M l r k) M), lld M l r k (am (lld M l r k) M) + l (r k).toNat⟩] := by
  unfold lpt lld; rw [rl_succ, prts_snoc]
theorem lld_succ (M : Nat) (l : Nat → Int) (r : Nat → Int) (k : Nat) : lld M l r (k + 1) = Shp.upd (lld M l r k) (am (lld M l r k) M) (lld M l r k (am (lld M l r k) M) + l (r k).toNat) := by
  unfold lld; rw [rl_succ, loads_snoc]; rfl
def lend (M : Nat) (l : Nat → Int) (r : Nat → Int) (k : Nat) : Int := endP 0 (lpt M l r k)
theorem lend_succ (M : Nat) (l : Nat → Int) (r : Nat → Int) (k : Nat) : lend M l r (k + 1) = max (lend M l r k) (lld M l r k (am (lld M l r k) M) + l (r k).toNat) := by
  unfold lend; rw [lpt_succ, endP_snoc]
theorem lpt_len (M : Nat) (l : Nat → Int) (r : Nat → Int) : ∀ k, (lpt M l r k).length = k
  | 0 => rfl
  | k + 1 => by rw [lpt_succ, List.length_append, lpt_len M l r k]; rfl
theorem lld_bd {n M : Nat} {l : Nat → Int} {m : Int} {r : Nat → Int} (hG : GoodL n l m) (hR : GoodR n r) : ∀ k, k ≤ n → (∀ c, 0 ≤ lld M l r k c ∧ lld M l r k c ≤ 1000000000 * k) ∧ 0 ≤ lend M l r k ∧ lend M l r k ≤ 1000000000 * k
  | 0, _ => ⟨fun c => by show (0 : Int) ≤ 0 ∧ (0 : Int) ≤ 1000000000 * ((0 : Nat) : Int); omega, by show (0 : Int) ≤ 0 ∧ (0 : Int) ≤ 1000000000 * ((0 : Nat) : Int); omega⟩
  | k + 1, hk => by
    have ih := lld_bd (M := M) hG hR k (by omega)
    have a := hR.rng k hk
    have b := hG.l (r k).toNat (by omega)
    have c := ih.1 (am (lld M l r k) M)
    refine ⟨fun j => ?_, ?_⟩
    · rw [lld_succ]
      unfold Shp.upd
      have := ih.1 j
      split <;> omega
    · rw [lend_succ]; omega
def scode (n : Nat) (l : Nat → Int) (m : Int) (r : Nat → Int) (len : Nat) : Int := if lcode n l m ≠ 0 then lcode n l m else ocode r len n
structure SGood (n : Nat) (l : Nat → Int) (m : Int) (r : Nat → Int) (len : Nat) : Prop where
  g : GoodL n l m
  r : GoodR n r
  e : len = n
theorem sgood_of {n len : Nat} {l : Nat → Int} {m : Int} {r : Nat → Int} (h : scode n l m r len = 0) : SGood n l m r len := by
  unfold scode at h
  by_cases c : lcode n l m = 0
  · rw [if_neg (by simpa using c)] at h
    unfold ocode at h
    by_cases c2 : (len : Int) = n
    · have c3 : len = n := by omega
      subst c3
      rw [if_neg (by simp)] at h
      exact ⟨goodL_of c, goodR_of h, rfl⟩
    · rw [if_pos c2] at h; exact absurd h (by decide)
  · rw [if_pos c] at h; exact absurd h c
/-- What List leaves. -/
def ListPost (w : World) (n : Nat) (l : Nat → Int) (m : Int) (r : Nat → Int) (len : Nat) (e : Ending) (w' : World) : Prop :=
  Below w.heap.size w w' ∧ ((scode n l m r len ≠ 0 ∧ e = .returned (.tuple #[.int .i64 0, .slice none 0 0, .iface 26 (.int .i64 (scode n l m r len))])) ∨ (scode n l m r len = 0 ∧ ∃ v, e = .returned (.tuple #[.int .i64 (lend m.toNat l r n), v, .nilIface]) ∧ OwnQ w' w.heap.size v (lpt m.toNat l r n)))
/-- How far List is. -/
structure LSt (w wr : World) (pp q qc k M : Nat) (l r : Nat → Int) : Prop where
  pt : OwnQ wr w.heap.size (.slice (some ⟨q, 0, none⟩) k qc) (lpt M l r k)
  pl : ∃ g cap f, Box1 89 wr pp (.slice (some ⟨g, 0, none⟩) M cap) ∧ PoolR wr g M cap (lld M l r k) f ∧ Heap (les (lld M l r k)) f M ∧ Re 0 M id f ∧ w.heap.size ≤ g ∧ pp ≠ g ∧ g ≠ q
  hpp : w.heap.size ≤ pp ∧ pp ≠ q
  bl : Below w.heap.size w wr
theorem OwnQ.lt {w : World} {B q n c : Nat} {ps : List Prt} (h : OwnQ w B (.slice (some ⟨q, 0, none⟩) n c) ps) : q < w.heap.size := by
  obtain ⟨h1, ⟨e, _⟩ | ⟨g, cap, cur, e, hb, hh, _⟩⟩ := h
  · cases e
  · injection e with e1 e2 e3
    obtain rfl : q = g := by injection e1 with e1; injection e1
    exact (Array.getElem?_eq_some_iff.1 hh).1
theorem OwnQ.other {w w' : World} {B q n c : Nat} {ps : List Prt} (h : OwnQ w B (.slice (some ⟨q, 0, none⟩) n c) ps) (he : w'.heap[q]? = w.heap[q]?) : OwnQ w' B (.slice (some ⟨q, 0, none⟩) n c) ps := by
  obtain ⟨h1, ⟨e, _⟩ | ⟨g, cap, cur, e, hb, hh, h2⟩⟩ := h
  · cases e
  · have e' := e
    injection e with e1 e2 e3
    obtain rfl : q = g := by injection e1 with e1; injection e1
    exact ⟨h1, Or.inr ⟨q, cap, cur, e', hb, by rw [he]; exact hh, h2⟩⟩
theorem Box1.other {T : TypeId} {w w' : World} {g : Nat} {u : Value} (h : Box1 T w g u) (he : w'.heap[g]? = w.heap[g]?) : Box1 T w' g u := by unfold Box1; rw [he]; exact h
/-- Blocks that pool's functions leave alone. -/
def Sv (w : World) (pp g : Nat) (k : Nat) : Prop := k < w.heap.size ∧ k ≠ pp ∧ k ≠ g
theorem hp_start {w : World} {pp g n cap : Nat} {L : Nat → Int} {f : Nat → Nat} (hb : Box1 89 w pp (.slice (some ⟨g, 0, none⟩) n cap)) (hr : PoolR w g n cap L f) (hne : pp ≠ g) : HP (Sv w pp g) w w pp g n cap L f :=
  ⟨hb, hr, Fr.refl _ _, ⟨fun h => h.2.1 rfl, fun h => h.2.2 rfl, hne⟩, fun _ h => h.1⟩
/-- A machine is back with more to do. -/
theorem pool_back {w5 w6 : World} {pp g q m M : Nat} {L' : Nat → Int} {f f2 : Nat → Nat} {c : Nat} {w : World} (hM : M = m + 1) (hf : Re 0 M id f) (hc : c = f 0) (hre : Re 0 m (Stb.swp f 0 m) f2) (hq : q < w5.heap.size) (hqn : pp ≠ q ∧ g ≠ q) (hg : w.heap.size ≤ g) (hw : w.heap.size ≤ w5.heap.size)
    (h : ∃ g' cap', HeapPost (Sv w5 pp g) w5 pp g' (m + 1) (m + 1) cap' L' (puf f2 m c) w6) : ∃ g cap f, Box1 89 w6 pp (.slice (some ⟨g, 0, none⟩) M cap) ∧ PoolR w6 g M cap L' f ∧ Heap (les L') f M ∧ Re 0 M id f ∧ w.heap.size ≤ g ∧ pp ≠ g ∧ g ≠ q := by
  obtain ⟨g', cap', f3, h1, h2, h3⟩ := h
  subst hM
  have e : puf f2 m c = f2 := by
    funext i
    unfold puf
    by_cases ci : i = m
    · rw [if_pos ci, ci, hre.out m (by omega), hc]
      by_cases c0 : m = 0
      · subst c0; rw [swp_a]
      · rw [swp_b _ (by omega)]
    · rw [if_neg ci]
  rw [e] at h3
  have hS := h1.ge.2.1
  have hgq : g' ≠ q := fun e => hS ⟨by omega, fun e' => hqn.1 (by omega), fun e' => hqn.2 (by omega)⟩
  have hgw : w.heap.size ≤ g' := by
    rcases Nat.lt_or_ge g' w.heap.size with c1 | c1
    · by_cases c2 : g' = pp
      · exact absurd c2.symm h1.ge.2.2
      · exact absurd ⟨by omega, c2, by omega⟩ hS
    · exact c1
  exact ⟨g', cap', f3, h1.box, h1.row, h2, ((hf.trans (Re.swp f (Nat.zero_le _) (by omega) (Nat.zero_le _) (by omega))).trans (hre.mono (Nat.le_refl _) (Nat.le_succ m))).trans h3, hgw, h1.ge.2.2, hgq⟩

/-- Behind an append: a machine's box, the parts, the pool without it. -/
structure L5 (w w5 : World) (pp g q k qc B m cap : Nat) (L : Nat → Int) (f : Nat → Nat) (ps : List Prt) (nv : Int) (c : Nat) : Prop where
  box : Box2 77 w5 B (.int .i64 nv) (.int .i64 (c : Int))
  pt : OwnQ w5 w.heap.size (.slice (some ⟨q, 0, none⟩) k qc) ps
  bl : Below w.heap.size w w5
  pb : Box1 89 w5 pp (.slice (some ⟨g, 0, none⟩) m cap)
  row : PoolR w5 g m cap L f
  ne : pp ≠ q ∧ g ≠ q ∧ pp ≠ g
theorem l5_of {S : Nat → Prop} {w w0 w3 w4 w5 : World} {pp g q q5 k qc5 B m cap : Nat} {L : Nat → Int} {f : Nat → Nat} {ps : List Prt} {t : Prt} {nv : Int} {c : Nat} {ob : Obj} (hl : ps.length = k) (hP : HP S w0 w3 pp g m cap L f) (hF : ∀ k, k ≠ B → w4.heap[k]? = w3.heap[k]?) (hsz : w4.heap.size = w3.heap.size) (hX : Box2 77 w4 B (.int .i64 nv) (.int .i64 (c : Int))) (hb : Below w.heap.size w w4) (hn : B ≠ pp ∧ B ≠ g ∧ B ≠ q) (hq : pp ≠ q ∧ g ≠ q) (hw : w.heap.size ≤ q)
    (own : w5.ownsRow w.heap.size 73 4 (.slice (some ⟨q5, 0, none⟩) (k + 1) qc5) (k + 1) (qcells ps ++ qval t)) (grow : (w4.alloc ob).grownBy w5 (some q)) (hat : some q = some q5 ∨ q5 = w4.heap.size + 1) : L5 w w5 pp g q5 (k + 1) qc5 B m cap L f (ps ++ [t]) nv c := by
  have ba := alloc_below w4 ob
  have h1 := hP.box.lt
  have h2 := hP.row.lt
  have hq5 : pp ≠ q5 ∧ g ≠ q5 := by
    rcases hat with e | e
    · have : q = q5 := Option.some.inj e
      rw [← this]; exact hq
    · omega
  have blk : ∀ k, k < w4.heap.size → k ≠ q → w5.heap[k]? = w4.heap[k]? := fun k hk hne => by
    rw [grow.block k (by rw [alloc_size]; omega) (fun e => hne (Option.some.inj e)), ba.block k hk]
  subst hl
  refine ⟨?_, OwnQ.push own, Below.grown (below_step hb ba) grow (Nat.le_trans hb.size ba.size) (fun k hk => by rw [← Option.some.inj hk]; exact hw), ?_, ?_, hq5.1, hq5.2, hP.ge.2.2⟩
  · unfold Box2
    rw [blk B hX.lt hn.2.2]
    exact hX
  · refine hP.box.other ?_
    rw [blk pp (by omega) hq.1, hF pp (Ne.symm hn.1)]
  · refine hP.row.other ?_
    rw [blk g (by omega) hq.2, hF g (Ne.symm hn.2.1)]
theorem OwnQ.base_le {w : World} {B q n c : Nat} {ps : List Prt} (h : OwnQ w B (.slice (some ⟨q, 0, none⟩) n c) ps) : B ≤ q := h.row q (by simp [Value.ownBlock])
/-- The pool without a machine that has more to do. -/
theorem L5.hp {w w5 : World} {pp g q k qc B m cap M : Nat} {L : Nat → Int} {f f2 : Nat → Nat} {ps : List Prt} {nv : Int} {c : Nat} (h : L5 w w5 pp g q k qc B m cap L f2 ps nv c) (hM : M = m + 1) (hf : Re 0 M id f) (hc : c = f 0) (hre : Re 0 m (Stb.swp f 0 m) f2) (hh : Heap (les L) f2 m) : HP (Sv w5 pp g) w5 w5 pp g m cap (Shp.upd L c nv) f2 ∧ Heap (les (Shp.upd L c nv)) f2 m := by
  subst hM
  have key : ∀ i, i < m → f2 i ≠ c := fun i hi e => by
    have inj := (((hf.trans (Re.swp f (Nat.zero_le _) (show 0 < m + 1 by omega) (Nat.zero_le _) (show m < m + 1 by omega))).trans (hre.mono (Nat.le_refl _) (Nat.le_succ m)))).inj (Nat.le_refl _) (fun i j _ _ e => e)
    have e2 : f2 m = c := by
      rw [hre.out m (by omega), hc]
      by_cases c0 : m = 0
      · subst c0; rw [swp_a]
      · rw [swp_b _ (by omega)]
    have := inj i m (by omega) (by omega) (by rw [e, e2])
    omega
  refine ⟨hp_start h.pb (h.row.congr fun i hi => ⟨rfl, ?_⟩) h.ne.2.2, heap_upd hh key⟩
  unfold Shp.upd
  rw [if_neg (key i hi)]
end Go.Proofs.YtepgdlgifempeaaDoor
