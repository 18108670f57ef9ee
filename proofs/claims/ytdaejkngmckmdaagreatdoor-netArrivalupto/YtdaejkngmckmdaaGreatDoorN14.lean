/- Nets: Closed. -/
import Derived.Test.YtdaejkngmckmdaaGreatDoorN10
namespace Go.Proofs.YtdaejkngmckmdaaGreatDoor
open Go.RowKit Go.Sort Go.Shelf

/-- A row of rows of the call's own, whose rows lie elsewhere. -/
structure HdAt (w wr : World) (G n c : Nat) (ls : Nat → Sl) : Prop where
  out : wr.heap[G]? = some (.cells (hdl n c ls).toArray 26)
  gl : w.heap.size ≤ G
  bl : Below w.heap.size w wr
theorem HdAt.lt {w wr : World} {G n c : Nat} {ls : Nat → Sl} (h : HdAt w wr G n c ls) : G < wr.heap.size := (Array.getElem?_eq_some_iff.1 h.out).1
theorem HdAt.push {w wr : World} {G n c : Nat} {ls : Nat → Sl} (h : HdAt w wr G n c ls) (l : Sl) : HdAt w (wr.setCell ⟨G, c, none⟩ (.slice l.a l.n l.c)) G n (c + 1) (upl ls c l) := by
  have o1 := hdl_write h.out c (.slice l.a l.n l.c)
  have e : ∀ i, i < c → ls i = upl ls c l i := fun i hi => by unfold upl; rw [if_neg (by omega)]
  have ev : Value.slice l.a l.n l.c = Sl.val (upl ls c l c) := by unfold upl; rw [if_pos rfl]; rfl
  have o2 : (hdl n c ls).set c (.slice l.a l.n l.c) = hdl n (c + 1) (upl ls c l) := by rw [ev, ← hdl_push, hdl_congr e]
  rw [o2] at o1
  exact ⟨o1, h.gl, h.bl.setCell h.gl _⟩
theorem HdAt.rows {w wr : World} {G n : Nat} {ls : Nat → Sl} {ks : List (List Rat)} (h : HdAt w wr G n n ls) (hk : ks.length = n) (hn : n ≤ 1000) (hl : ∀ i, i < n → LawIs wr (ls i).val ks[i]!) : RowsAre wr (.slice (some ⟨G, 0, none⟩) n n) ks := by
  refine ⟨some ⟨G, 0, none⟩, n, by rw [hk], by omega, by omega, fun hp => ⟨G, 0, rfl, h.lt, fun j hj => ⟨ls j, ?_, hl j (by omega)⟩⟩⟩
  rw [Nat.zero_add]
  exact hdl_cell h.out (by omega) (by omega)
/-- A row but for its first place. -/
theorem law_tail {w : World} {b o c : Nat} {qs : List Rat} (h : LawIs w (.slice (some ⟨b, o, none⟩) qs.length c) qs) (hp : 1 < qs.length) : LawIs w (.slice (some ⟨b, o + 3, none⟩) (qs.length - 1) (c - 1)) qs.tail := by
  obtain ⟨a', c', e, h1, h2, h3⟩ := h
  injection e with e1 e2 e3
  subst e3
  obtain ⟨b', o', ea, hlt, hc⟩ := h3 (by omega)
  rw [← e1] at ea
  injection ea with ea
  injection ea with eb eo
  subst eb eo
  refine ⟨some ⟨b, o + 3, none⟩, c - 1, by rw [List.length_tail], by rw [List.length_tail]; omega, by omega, fun _ => ⟨b, o + 3, rfl, hlt, fun j hj => ?_⟩⟩
  rw [List.length_tail] at hj
  obtain ⟨s, a1, a2, n1, c1, n2, c2, k0, k1, k2, r⟩ := hc (j + 1) (by omega)
  have eo : o + 3 + j * 3 = o + (j + 1) * 3 := by omega
  have eg : qs.tail[j]! = qs[j + 1]! := by simp
  refine ⟨s, a1, a2, n1, c1, n2, c2, by rw [eo]; exact k0, by rw [eo]; exact k1, by rw [eo]; exact k2, by rw [eg]; exact r⟩
theorem law_none (w : World) (a : Option Addr) (c : Nat) (hc : c ≤ 9223372036854775807) : LawIs w (.slice a 0 c) [] := ⟨a, c, rfl, Nat.zero_le _, hc, fun h => absurd h (Nat.lt_irrefl _)⟩
theorem app_none {P : Program} (w : World) (t ty e : TypeId) (i : TypeInfo) (ht : P.underlying t = some (.slice e)) (hi : P.info? e = some i) (b : Addr) (a : Option Addr) (n cap c : Nat) (hle : n ≤ cap) :
    (Builtin.append_ #[t, t] ty #[.slice (some b) n cap, .slice a 0 c]).run P w = .ok (.slice (some b) n cap) w := by
  cases a <;> simp [Builtin.append_, run_underlying ht, Builtin.lenOf, Builtin.firstCells, sizeOf, typeInfo, hi, hle, storeCells, loadCells, loadCellsFrom]
theorem wpList_append_none {P : Program} (w : World) {ops : Array Oper} {rest : List Oper} {o : Oper} {a : Act} {Q : Exit → Act → World → Prop} (hgd : o.guard = none) (s x : Operand) (t : TypeId)
    (ho : o.op = .call { callee := .builtin .append, args := #[s, x], argTypes := #[t, t] }) (e : TypeId) (i : TypeInfo) (ht : P.underlying t = some (.slice e)) (hi : P.info? e = some i)
    (b : Addr) (n cap : Nat) (hle : n ≤ cap) (hs : a.eval s = .slice (some b) n cap) (ad : Option Addr) (c : Nat) (hx : a.eval x = .slice ad 0 c)
    (h : wpList P ops Q rest (a.put o.dst (.slice (some b) n cap)) w) : wpList P ops Q (o :: rest) a w := by
  refine wpList_plain hgd fun K hK => ?_
  have hr := app_none (P := P) w t o.type e i ht hi b ad n cap c hle
  unfold Oper.wp execOp
  simp only [ho, resolve, invoke, builtin, Sem.run_bind, Sem.run_pure, Result.andThen_ok, List.map_toArray, List.map_cons, List.map_nil, hs, hx, hr]
  exact hK _ _ h
end Go.Proofs.YtdaejkngmckmdaaGreatDoor
