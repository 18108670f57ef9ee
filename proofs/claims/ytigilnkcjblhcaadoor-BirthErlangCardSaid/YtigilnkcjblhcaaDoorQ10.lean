/- Two rows of fractions, one more appended to each; what Erlang's numbers are to Steady. -/
import Derived.Test.YtigilnkcjblhcaaDoorQ8
import Derived.Test.YtigilnkcjblhcaaDoorQ3
import Derived.Test.YtigilnkcjblhcaaDoorA16
namespace Go.Proofs.YtigilnkcjblhcaaDoor
open Go.RowKit Go.Sort Go.Shelf

theorem step_append_tri {P : Program} (w : World) {ops : Array Oper} {o : Oper} {a : Act} {K : Act → World → Prop} {Q : Exit → Act → World → Prop} {E : Prop} (hgd : o.guard = none) (s x : Operand) (t : TypeId)
    (ho : o.op = .call { callee := .builtin .append, args := #[s, x], argTypes := #[t, t] })
    (base : Nat) (e : TypeId) (i : TypeInfo) (bytes : Nat) (ht : P.underlying t = some (.slice e)) (hi : P.info? e = some i) (hz : i.zero = some (.agg zR))
    (hsize : i.size = 3) (hby : i.bytes = bytes)
    (v : Value) (n : Nat) (xs : List Value) (hs : a.eval s = v) (hown : w.ownsRow base e 3 v n xs) (hno : ∀ g, v.ownBlock = some g → Wordless w g)
    (ad : Addr) (m c : Nat) (news : List Value) (hx : a.eval x = .slice (some ad) m c) (hl : news.length = m * 3) (hnews : ∀ j u, news[j]? = some u → w.cell? (ad.add j) = some u) (h1 : ∀ u ∈ news, u.oneCell' = true) (h1w : ∀ u ∈ news, Go.Proofs.YtigilnkcjblhcaaDoor.notWord u)
    (hm : 0 < m) (h63 : n + m ≤ maxLen) (hbytes : (n + m) * bytes ≤ 140737488355328) (hbase : base ≤ w.heap.size) (H : Nat) (hH : w.heap.size = H)
    (h : ∀ g cap w', w'.ownsRow base e 3 (.slice (some ⟨g, 0, none⟩) (n + m) cap) (n + m) (xs ++ news) → w.grownBy w' v.ownBlock → (v.ownBlock = some g ∨ g = H) → g < w'.heap.size → Wordless w' g → K (a.put o.dst (.slice (some ⟨g, 0, none⟩) (n + m) cap)) w') :
    if Region.wanted o (yielded ops a.tmps) = true then Oper.wp P o a w K Q else E := by
  have hw : Region.wanted o (yielded ops a.tmps) = true := by simp [Region.wanted, hgd]
  rw [if_pos hw]
  obtain ⟨g, cap, w', hr, h2, h3, h4, h5⟩ := run_append_lies (P := P) w t o.type base e i _ 3 bytes ht hi hz hsize hby (by decide) (by omega) v n xs hown ad m c news hl hnews h1 hm h63 hbytes hbase H hH
  have h6 := append_wordless ht hi hz hsize hby hown hno hl hnews h1 h1w hm h63 hbytes hr
  unfold Oper.wp execOp
  simp only [ho, resolve, invoke, builtin, Sem.run_bind, Sem.run_pure, Result.andThen_ok, List.map_toArray, List.map_cons, List.map_nil, hs, hx, hr]
  exact h g cap w' h2 h3 h4 h5 h6


/-- A row is kept where another one of the call's own grows. -/
theorem FsAt.apart {w wr w' : World} {B : Nat} {v : Value} {ts : List Tri} {qs : List Rat} {r : Option Nat} (h : FsAt w wr B v ts qs) (hg : wr.grownBy w' r) (hne : ∀ k, v.ownBlock = some k → r ≠ some k) (hno : ∀ g, r = some g → Wordless wr g) (hb : Below w.heap.size w w') : FsAt w w' B v ts qs := by
  have hblk : ∀ k, v.ownBlock = some k → w'.heap[k]? = wr.heap[k]? := fun k hk => hg.block k (ownsR_block h.own k hk).2 (fun e => hne k hk e.symm)
  refine ⟨?_, fun g hgb i k x e => h.no g hgb i k x ?_, fun j hj => (h.rat j hj).far hg hno, hb, h.base⟩
  · refine ⟨h.own.1, ?_⟩
    rcases h.own.2 with h2 | ⟨g, cap, cur, hv, hbg, hh, hr⟩
    · exact Or.inl h2
    · exact Or.inr ⟨g, cap, cur, hv, hbg, by rw [hblk g (by rw [hv]; rfl)]; exact hh, hr⟩
  · simp only [World.cell?] at e ⊢
    rw [← hblk g hgb]
    exact e

/-- So many like loads. -/
def ulist (a : Rat) (c : Nat) : List Rat := row (fun _ => a) c
/-- The numbers from 1 on. -/
def dlist (c : Nat) : List Rat := row (fun j => (((j + 1 : Nat) : Int) : Rat)) c
theorem ulist_ok {a : Rat} (h : 0 ≤ a) (c : Nat) : OkP (ulist a c) (dlist c) := fun j hj => by
  have hj' : j < c := by unfold ulist at hj; rw [row_length] at hj; exact hj
  unfold ulist dlist
  rw [row_get hj', row_get hj']
  exact ⟨Rat.num_nonneg.2 h, show (0 : Int) < ((j + 1 : Nat) : Int) by omega⟩
theorem pev_wt (a : Rat) (c : Nat) : ∀ i, i ≤ c → pev (ulist a c) (dlist c) i = Bth.wt a i
  | 0, _ => rfl
  | i + 1, h => by
    show pev (ulist a c) (dlist c) i * (ulist a c)[i]! / (dlist c)[i]! = _
    rw [pev_wt a c i (by omega), Bth.wt_succ]
    unfold ulist dlist
    rw [row_get (by omega), row_get (by omega)]
theorem pes_ws (a : Rat) (c : Nat) : pes (ulist a c) (dlist c) = Bth.ws a (c + 1) := by
  unfold pes ulist
  rw [row_length]
  exact Bth.ps_congr _ (fun j hj => pev_wt a c j (by omega))
theorem stv_eb (a : Rat) (c : Nat) : stv (ulist a c) (dlist c) c = Bth.eb a c := by
  unfold stv Bth.eb
  rw [pev_wt a c c (Nat.le_refl _), pes_ws]
theorem word_RS {j : Nat} (h : j ≤ 1000) : RS (((j : Nat) : Int) : Rat) 1 := by
  have e : Wd.pw 1 = 18446744073709551616 := Wd.pw_one
  refine ⟨?_, ?_⟩
  · rw [e]; show ((((j : Nat) : Int).natAbs : Nat) : Int) < _; omega
  · rw [e]; show ((1 : Nat) : Int) < _; decide
theorem ulist_RS {a : Rat} (h : RS a 1) (c : Nat) : ∀ j, j < (ulist a c).length → RS (ulist a c)[j]! 1 := fun j hj => by
  unfold ulist at hj ⊢
  rw [row_length] at hj
  rw [row_get hj]; exact h
theorem dlist_RS {c : Nat} (hc : c ≤ 100) : ∀ j, j < (dlist c).length → RS (dlist c)[j]! 1 := fun j hj => by
  unfold dlist at hj ⊢
  rw [row_length] at hj
  rw [row_get hj]; exact word_RS (by omega)
end Go.Proofs.YtigilnkcjblhcaaDoor
