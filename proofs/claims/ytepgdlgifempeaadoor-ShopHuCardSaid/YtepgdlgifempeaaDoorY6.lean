/- Parts in memory; filled, McNaughton. -/
import Derived.Test.YtepgdlgifempeaaDoorY2
import Derived.Test.YtepgdlgifempeaaDoorM31
namespace Go.Proofs.YtepgdlgifempeaaDoor
open Go.RowKit Go.Sort Stb Shp

def qval (p : Prt) : List Value := [.int .i64 (p.c : Int), .int .i64 (p.j : Int), .int .i64 p.a, .int .i64 p.b]
def qcells (ps : List Prt) : List Value := ps.flatMap qval
theorem qcells_length (ps : List Prt) : (qcells ps).length = ps.length * 4 := by
  induction ps with
  | nil => rfl
  | cons t ts ih => simp only [qcells, List.flatMap_cons, List.length_append, List.length_cons] at *; simp only [qval, List.length_cons, List.length_nil]; omega
theorem qcells_append (ps qs : List Prt) : qcells (ps ++ qs) = qcells ps ++ qcells qs := by simp [qcells]
theorem qcells_one (t : Prt) : qcells [t] = qval t := by simp [qcells]
theorem qcells_get (ts : List Prt) (t : Prt) (j k : Nat) (hj : ts[j]? = some t) (hk : k < 4) : (qcells ts)[j * 4 + k]? = (qval t)[k]? := by
  induction ts generalizing j with
  | nil => simp at hj
  | cons t' ts ih =>
    have e : qcells (t' :: ts) = qval t' ++ qcells ts := by simp [qcells]
    have hl : (qval t').length = 4 := rfl
    rw [e]
    cases j with
    | zero =>
      have ht : t' = t := by simpa using hj
      rw [List.getElem?_append_left (by omega), ht]; simp
    | succ j =>
      rw [List.getElem?_append_right (by omega), hl, show (j + 1) * 4 + k - 4 = j * 4 + k by omega, ih j (by simpa using hj)]
theorem qval_one (t : Prt) : ∀ u ∈ qval t, u.oneCell' = true := by
  intro u hu
  simp only [qval, List.mem_cons, List.not_mem_nil, or_false] at hu
  rcases hu with rfl | rfl | rfl | rfl <;> rfl

/-- A row of parts of the call's own. -/
def OwnQ (w : World) (B : Nat) (v : Value) (ps : List Prt) : Prop := w.ownsRow B 73 4 v ps.length (qcells ps)
theorem OwnQ.keep {w w' : World} {B : Nat} {v : Value} {ps : List Prt} (h : OwnQ w B v ps) (hb : Below w.heap.size w w') : OwnQ w' B v ps := by
  refine ⟨h.1, ?_⟩
  rcases h.2 with h | ⟨g, cap, cur, hv, hg, hh, h1⟩
  · exact Or.inl h
  · exact Or.inr ⟨g, cap, cur, hv, hg, by rw [hb.block g (Array.getElem?_eq_some_iff.1 hh).1]; exact hh, h1⟩
theorem OwnQ.start (w : World) (B : Nat) : OwnQ w B (.slice none 0 0) [] := World.ownsRow_nil _ _ _ _
theorem OwnQ.base {w : World} {B B' : Nat} {v : Value} {ps : List Prt} (h : OwnQ w B v ps) (hB : B' ≤ B) : OwnQ w B' v ps := by
  refine ⟨h.1, ?_⟩
  rcases h.2 with h | ⟨g, cap, cur, hv, hg, h1⟩
  · exact Or.inl h
  · exact Or.inr ⟨g, cap, cur, hv, Nat.le_trans hB hg, h1⟩
/-- A row of parts that is read. -/
def QRow (w : World) (a : Option Addr) (c : Nat) (ps : List Prt) : Prop :=
  ps.length ≤ c ∧ c ≤ 9223372036854775807 ∧ (0 < ps.length → ∃ b, a = some ⟨b, 0, none⟩ ∧ b < w.heap.size ∧ ∀ j t, ps[j]? = some t → w.cell? ⟨b, j * 4, none⟩ = some (.int .i64 (t.c : Int)) ∧ w.cell? ⟨b, j * 4 + 1, none⟩ = some (.int .i64 (t.j : Int)) ∧ w.cell? ⟨b, j * 4 + 2, none⟩ = some (.int .i64 t.a) ∧ w.cell? ⟨b, j * 4 + 3, none⟩ = some (.int .i64 t.b))
theorem QRow.below {w w' : World} {a : Option Addr} {c : Nat} {ps : List Prt} (h : QRow w a c ps) (hb : Below w.heap.size w w') : QRow w' a c ps := by
  obtain ⟨h1, h2, h3⟩ := h
  refine ⟨h1, h2, fun hn => ?_⟩
  obtain ⟨b, e, hlt, hc⟩ := h3 hn
  refine ⟨b, e, Nat.lt_of_lt_of_le hlt hb.size, fun j t hj => ?_⟩
  rw [hb.cell (p := ⟨b, j * 4, none⟩) hlt, hb.cell (p := ⟨b, j * 4 + 1, none⟩) hlt, hb.cell (p := ⟨b, j * 4 + 2, none⟩) hlt, hb.cell (p := ⟨b, j * 4 + 3, none⟩) hlt]
  exact hc j t hj
theorem OwnQ.qrow {w : World} {B : Nat} {v : Value} {ps : List Prt} (h : OwnQ w B v ps) : ∃ a c, v = .slice a ps.length c ∧ QRow w a c ps := by
  obtain ⟨h1, ⟨rfl, h2⟩ | ⟨g, cap, cur, rfl, hb, hh, hc1, hc2, hs, ht⟩⟩ := h
  · exact ⟨none, 0, by rw [h2], by omega, by decide, fun h => absurd h (by omega)⟩
  · refine ⟨_, _, rfl, hc1, by unfold maxLen at hc2; exact hc2, fun _ => ⟨g, rfl, (Array.getElem?_eq_some_iff.1 hh).1, fun j t hj => ?_⟩⟩
    have hjl : j < ps.length := (List.getElem?_eq_some_iff.1 hj).1
    have cellk : ∀ k, k < 4 → w.cell? ⟨g, j * 4 + k, none⟩ = (qval t)[k]? := fun k hk => by
      simp only [World.cell?, hh]
      have e : (cur.toList.take (ps.length * 4))[j * 4 + k]? = (qcells ps)[j * 4 + k]? := by rw [ht]
      rw [List.getElem?_take_of_lt (by omega), qcells_get ps t j k hj hk] at e
      simpa using e
    exact ⟨cellk 0 (by decide), cellk 1 (by decide), cellk 2 (by decide), cellk 3 (by decide)⟩
theorem OwnQ.row {w : World} {B : Nat} {v : Value} {ps : List Prt} (h : OwnQ w B v ps) : ∀ k, v.ownBlock = some k → B ≤ k := by
  intro k hk
  rcases h.2 with ⟨rfl, _⟩ | ⟨g, cap, cur, rfl, hb, _⟩
  · cases hk
  · have : g = k := by simpa [Value.ownBlock] using hk
    rw [← this]; exact hb
theorem OwnQ.grow {w wr w' : World} {B : Nat} {v : Value} {ps : List Prt} (h : OwnQ wr B v ps) (hb : Below w.heap.size w wr) (hB : w.heap.size ≤ B) {W : World} (hW : Below wr.heap.size wr W) (hg : W.grownBy w' v.ownBlock) : Below w.heap.size w w' :=
  Below.grown (below_step hb hW) hg (Nat.le_trans hb.size hW.size) (fun k hk => Nat.le_trans hB (h.row k hk))
theorem OwnQ.push {w' : World} {B g cap : Nat} {ps : List Prt} {t : Prt} (own : w'.ownsRow B 73 4 (.slice (some ⟨g, 0, none⟩) (ps.length + 1) cap) (ps.length + 1) (qcells ps ++ qval t)) : OwnQ w' B (.slice (some ⟨g, 0, none⟩) (ps.length + 1) cap) (ps ++ [t]) := by
  unfold OwnQ
  rw [List.length_append, qcells_append, qcells_one]
  exact own
theorem news_part (w : World) (t : Prt) (T : TypeId) : ∀ j u, (qval t)[j]? = some u → (w.alloc (.cells #[.int .i64 (t.c : Int), .int .i64 (t.j : Int), .int .i64 t.a, .int .i64 t.b] T)).cell? ((⟨w.heap.size, 0, none⟩ : Addr).add j) = some u :=
  World.news_of_block (cs := #[.int .i64 (t.c : Int), .int .i64 (t.j : Int), .int .i64 t.a, .int .i64 t.b]) (t := T) (fr := (0, 0)) (heap_alloc_new w _)
theorem Tryd.infoQ : (Tryd.prog.info? 73).map (fun i => (i.zero, i.size, i.bytes)) = some (some (.agg #[.int .i64 0, .int .i64 0, .int .i64 0, .int .i64 0]), 4, 32) := by kernel_rfl

set_option maxHeartbeats 8000000 in
set_option maxRecDepth 100000 in
set_option linter.unusedSimpArgs false in
theorem filled_any (a : Option Addr) (n c E : Nat) (ln : Nat → Nat) (w : World) (ha : IRow w a n c (fun i => (ln i : Int))) (hn : n ≤ 60) (hEb : E ≤ 1000000000000) (hlE : ∀ i, i < n → ln i ≤ E) (hsm : ∀ k, k ≤ n → pre ln k ≤ 1000000000000) :
    Calls Tryd.prog 39 #[.slice a n c, .int .i64 (E : Int)] w fun e w' => ∃ v, e = .returned v ∧ OwnQ w' w.heap.size v (mcp E ln n) ∧ Below w.heap.size w w' := by
  obtain ⟨ti, hi, hz0, hz1, hz2⟩ := info_parts Tryd.infoQ
  have HI := hide hi
  have HZ := hide hz0
  have HA := hide ha
  have HLE := hide hlE
  have HSM := hide hsm
  clear hi hz0 ha hlE hsm
  go_enter Tryd.func39, Tryd.ntmps39
  go_wp2_with fail
  go_loopw [5, 6, 7, 13] (fun vp va vn vi wr => ∃ (k at_ now : Nat), vi = .int .i64 (k : Int) ∧ va = .int .i64 (at_ : Int) ∧ vn = .int .i64 (now : Int) ∧ k ≤ n ∧ pre ln k = at_ * E + now ∧ now ≤ E ∧ at_ ≤ 2 * k ∧ OwnQ wr w.heap.size vp (mcp E ln k) ∧ Below w.heap.size w wr) (fun _ _ _ vi _ => n - (intOf vi).toNat)
  case atStart => exact ⟨0, 0, 0, rfl, rfl, rfl, Nat.zero_le _, by show (0 : Nat) = 0 * E + 0; simp, Nat.zero_le _, Nat.zero_le _, OwnQ.start _ _, Below.refl _ _⟩
  case round =>
    obtain ⟨k, at0, now0, rfl, rfl, rfl, hk, hP0, hn0, hat0, hO0, hb0⟩ := hrel
    by_cases hlt : k < n
    · obtain ⟨b, o, rfl, hbl, hc⟩ := ((unhide HA).below hb0).2.2 (by omega)
      have c0 := hc k hlt
      have e1 : (0 : Int) ≤ (k : Int) := by omega
      have e2 : (k : Int) < (n : Int) := by omega
      have e3 : IntKind.i64.wrap ((k : Int) + 1) = (k : Int) + 1 := by rw [IntKind.wrap_i64]; omega
      have hlk := unhide HLE k hlt
      obtain ⟨L, hL⟩ : ∃ L, ln k = L := ⟨_, rfl⟩
      simp only at c0
      rw [hL] at c0 hlk
      have HL := hide hL
      have HO0 := hide hO0
      have HB0 := hide hb0
      have HP0 := hide hP0
      have HN0 : Hid (now0 ≤ E ∧ at0 ≤ 2 * k) := ⟨hn0, hat0⟩
      clear hc hO0 hb0 hP0 hn0 hL hat0
      go_wp2_with fail
      go_loopw [5, 6, 7, 9] (fun vp va vn vl wr => ∃ (r at_ now P : Nat) (left : Int) (ps : List Prt), va = .int .i64 (at_ : Int) ∧ vn = .int .i64 (now : Int) ∧ vl = .int .i64 left ∧ left = ((pre ln (k + 1) - P : Nat) : Int) ∧ P = at_ * E + now ∧ now ≤ E ∧ Suf E r P (pre ln (k + 1)) ∧ ps ++ seg E k r P (pre ln (k + 1)) = mcp E ln (k + 1) ∧ ps.length + r ≤ 2 * (k + 1) ∧ at_ + r ≤ 2 * (k + 1) ∧ OwnQ wr w.heap.size vp ps ∧ Below w.heap.size w wr) (fun _ _ _ vl _ => (intOf vl).toNat)
      case atStart =>
        have h1 := unhide HL
        have h2 : pre ln (k + 1) = pre ln k + L := by show pre ln k + ln k = _; rw [h1]
        have h3 := mcp_len E ln k
        have h4 := unhide HN0
        refine ⟨2, at0, now0, pre ln k, (L : Int), _, rfl, rfl, rfl, by rw [h2]; omega, unhide HP0, h4.1, ?_, rfl, by omega, by omega, unhide HO0, unhide HB0⟩
        rw [h2]; exact suf_two E hlk
      case round =>
        obtain ⟨r, at_, now, P, left, ps, rfl, rfl, rfl, hleft, hP, hnn, hS, hps, hlb, hab, hO, hb⟩ := hrel
        obtain ⟨Q, hQ⟩ : ∃ Q, pre ln (k + 1) = Q := ⟨_, rfl⟩
        have hnl2 : Q ≤ 1000000000000 := by rw [← hQ]; exact unhide HSM (k + 1) (by omega)
        rw [hQ] at hleft hS hps
        rw [hQ]
        by_cases hPQ : P < Q
        · by_cases hfull : now = E
          · have hE : 0 < E := suf_pos hS hPQ
            obtain ⟨at', hat⟩ : ∃ x, at_ + 1 = x := ⟨_, rfl⟩
            have hP' : P = at' * E + 0 := by rw [← hat, Nat.succ_mul]; omega
            have hn' : 0 < E := hE
            have e20 : IntKind.i64.wrap ((at_ : Int) + 1) = (at' : Int) := by rw [IntKind.wrap_i64]; omega
            have e21 : ((now : Int) == (E : Int)) = true := by simp; omega
            obtain ⟨to, hto⟩ : ∃ x, x = min E (0 + (Q - P)) := ⟨_, rfl⟩
            obtain ⟨r', hr', hS'⟩ := suf_next hE hP' hn' hPQ hto hS
            have hseg : seg E k (r' + 1) P Q = ⟨at', k, (0 : Int), (to : Int)⟩ :: seg E k r' (at' * E + to) Q := seg_next (j := k) (r := r') hE hP' hn' hPQ hto
            rw [hr', hseg] at hps
            have HPS : Hid ((ps ++ [⟨at', k, (0 : Int), (to : Int)⟩]) ++ seg E k r' (at' * E + to) Q = mcp E ln (k + 1)) := by show _ = _; rw [← hps]; simp
            have HS' := hide hS'
            have HQP : Hid (Q - (at' * E + to) < Q - P) := by show _ < _; omega
            have HLN : Hid ((ps ++ [(⟨at', k, (0 : Int), (to : Int)⟩ : Prt)]).length + r' ≤ 2 * (k + 1)) := by show _ ≤ _; rw [List.length_append]; simp only [List.length_cons, List.length_nil]; omega
            have HAB : Hid (at' + r' ≤ 2 * (k + 1)) := by show _ ≤ _; omega
            have HTE : Hid (to ≤ E) := by show _ ≤ _; omega
            obtain ⟨sm, hsm⟩ : ∃ s : Int, s = 0 := ⟨_, rfl⟩
            have e22 : IntKind.i64.wrap left = left := by rw [IntKind.wrap_i64]; omega
            have e23 : (if left < (E : Int) then left else (E : Int)) = (to : Int) := by split <;> omega
            obtain ⟨dd, hdd⟩ : ∃ d, (to : Int) = d := ⟨_, rfl⟩
            have e24 : IntKind.i64.wrap (to : Int) = dd := by rw [IntKind.wrap_i64]; omega
            obtain ⟨nl, hnl⟩ : ∃ d, left - dd = d := ⟨_, rfl⟩
            have e25 : IntKind.i64.wrap (left - dd) = nl := by rw [IntKind.wrap_i64]; omega
            have HNL : Hid (nl = ((Q - (at' * E + to) : Nat) : Int)) := by show nl = _; omega
            have O4 := hide (OwnQ.keep hO (alloc_below wr (.cells #[.int .i64 (at' : Int), .int .i64 (k : Int), .int .i64 (0 : Int), .int .i64 (to : Int)] 73)))
            have Q63 : Hid (ps.length + 1 ≤ maxLen) := by show _ ≤ _; unfold maxLen; omega
            have Q8 : Hid ((ps.length + 1) * 32 ≤ 140737488355328) := by show _ ≤ _; omega
            have QB := hide (below_step hb (alloc_below wr (.cells #[.int .i64 (at' : Int), .int .i64 (k : Int), .int .i64 (0 : Int), .int .i64 (to : Int)] 73))).size
            have HOQ := hide hO
            have HBR := hide hb
            have hl0 : 0 < left := by omega
            have HLP : Hid (left = ((Q - P : Nat) : Int)) := hleft
            clear hseg hps hS hS' hO hb hP hP' hPQ hr' hto hn' hnn hleft hdd hnl hlb hE hnl2 hab hsm hfull
            clear hat
            go_wp2_with (at_builtin; go_loud (refine wpList_append_lies _ rfl _ _ _ rfl w.heap.size 73 ti (.agg #[.int .i64 0, .int .i64 0, .int .i64 0, .int .i64 0]) 4 32 Tryd.underlying44 (unhide HI) (unhide HZ) hz1 hz2 rfl (by decide) _ ps.length (qcells ps) rfl (unhide O4) ⟨wr.heap.size, 0, none⟩ 1 1 (qval ⟨at', k, (0 : Int), (to : Int)⟩) rfl rfl (news_part wr ⟨at', k, (0 : Int), (to : Int)⟩ _) (qval_one _) (by decide) (unhide Q63) (unhide Q8) (unhide QB) (wr.heap.size + 1) (alloc_size _ _) ?_; intro g5 cap5 w5 own5 grow5 hat5 hlt5; have HO5 := hide (OwnQ.push (t := ⟨at', k, (0 : Int), (to : Int)⟩) own5); have HB5 := hide ((unhide HOQ).grow (unhide HBR) (Nat.le_refl _) (alloc_below wr (.cells #[.int .i64 (at' : Int), .int .i64 (k : Int), .int .i64 (0 : Int), .int .i64 (to : Int)] 73)) grow5); clear own5 grow5 hat5 hlt5))
            refine ⟨⟨r', at', to, at' * E + to, nl, ps ++ [⟨at', k, (0 : Int), (to : Int)⟩], rfl, rfl, rfl, ?_, rfl, unhide HTE, ?_, ?_, unhide HLN, unhide HAB, unhide HO5, unhide HB5⟩, ?_⟩
            · exact unhide HNL
            · exact unhide HS'
            · exact unhide HPS
            · have h1 := unhide HQP
              have h2 := unhide HNL
              have h3 := unhide HLP
              simp only [intOf]
              omega
          · have hE : 0 < E := suf_pos hS hPQ
            have hP' : P = at_ * E + now := hP
            have hn' : now < E := by omega
            have e21 : ((now : Int) == (E : Int)) = false := by rw [beq_eq_false_iff_ne]; omega
            obtain ⟨to, hto⟩ : ∃ x, x = min E (now + (Q - P)) := ⟨_, rfl⟩
            obtain ⟨r', hr', hS'⟩ := suf_next hE hP' hn' hPQ hto hS
            have hseg : seg E k (r' + 1) P Q = ⟨at_, k, (now : Int), (to : Int)⟩ :: seg E k r' (at_ * E + to) Q := seg_next (j := k) (r := r') hE hP' hn' hPQ hto
            rw [hr', hseg] at hps
            have HPS : Hid ((ps ++ [⟨at_, k, (now : Int), (to : Int)⟩]) ++ seg E k r' (at_ * E + to) Q = mcp E ln (k + 1)) := by show _ = _; rw [← hps]; simp
            have HS' := hide hS'
            have HQP : Hid (Q - (at_ * E + to) < Q - P) := by show _ < _; omega
            have HLN : Hid ((ps ++ [(⟨at_, k, (now : Int), (to : Int)⟩ : Prt)]).length + r' ≤ 2 * (k + 1)) := by show _ ≤ _; rw [List.length_append]; simp only [List.length_cons, List.length_nil]; omega
            have HAB : Hid (at_ + r' ≤ 2 * (k + 1)) := by show _ ≤ _; omega
            have HTE : Hid (to ≤ E) := by show _ ≤ _; omega
            obtain ⟨sm, hsm⟩ : ∃ s, (now : Int) + left = s := ⟨_, rfl⟩
            have e22 : IntKind.i64.wrap ((now : Int) + left) = sm := by rw [IntKind.wrap_i64]; omega
            have e23 : (if sm < (E : Int) then sm else (E : Int)) = (to : Int) := by split <;> omega
            obtain ⟨dd, hdd⟩ : ∃ d, (to : Int) - (now : Int) = d := ⟨_, rfl⟩
            have e24 : IntKind.i64.wrap ((to : Int) - (now : Int)) = dd := by rw [IntKind.wrap_i64]; omega
            obtain ⟨nl, hnl⟩ : ∃ d, left - dd = d := ⟨_, rfl⟩
            have e25 : IntKind.i64.wrap (left - dd) = nl := by rw [IntKind.wrap_i64]; omega
            have HNL : Hid (nl = ((Q - (at_ * E + to) : Nat) : Int)) := by show nl = _; omega
            have O4 := hide (OwnQ.keep hO (alloc_below wr (.cells #[.int .i64 (at_ : Int), .int .i64 (k : Int), .int .i64 (now : Int), .int .i64 (to : Int)] 73)))
            have Q63 : Hid (ps.length + 1 ≤ maxLen) := by show _ ≤ _; unfold maxLen; omega
            have Q8 : Hid ((ps.length + 1) * 32 ≤ 140737488355328) := by show _ ≤ _; omega
            have QB := hide (below_step hb (alloc_below wr (.cells #[.int .i64 (at_ : Int), .int .i64 (k : Int), .int .i64 (now : Int), .int .i64 (to : Int)] 73))).size
            have HOQ := hide hO
            have HBR := hide hb
            have hl0 : 0 < left := by omega
            have HLP : Hid (left = ((Q - P : Nat) : Int)) := hleft
            clear hseg hps hS hS' hO hb hP hP' hPQ hr' hto hn' hnn hleft hdd hnl hlb hE hnl2 hab hsm hfull
            go_wp2_with (at_builtin; go_loud (refine wpList_append_lies _ rfl _ _ _ rfl w.heap.size 73 ti (.agg #[.int .i64 0, .int .i64 0, .int .i64 0, .int .i64 0]) 4 32 Tryd.underlying44 (unhide HI) (unhide HZ) hz1 hz2 rfl (by decide) _ ps.length (qcells ps) rfl (unhide O4) ⟨wr.heap.size, 0, none⟩ 1 1 (qval ⟨at_, k, (now : Int), (to : Int)⟩) rfl rfl (news_part wr ⟨at_, k, (now : Int), (to : Int)⟩ _) (qval_one _) (by decide) (unhide Q63) (unhide Q8) (unhide QB) (wr.heap.size + 1) (alloc_size _ _) ?_; intro g5 cap5 w5 own5 grow5 hat5 hlt5; have HO5 := hide (OwnQ.push (t := ⟨at_, k, (now : Int), (to : Int)⟩) own5); have HB5 := hide ((unhide HOQ).grow (unhide HBR) (Nat.le_refl _) (alloc_below wr (.cells #[.int .i64 (at_ : Int), .int .i64 (k : Int), .int .i64 (now : Int), .int .i64 (to : Int)] 73)) grow5); clear own5 grow5 hat5 hlt5))
            refine ⟨⟨r', at_, to, at_ * E + to, nl, ps ++ [⟨at_, k, (now : Int), (to : Int)⟩], rfl, rfl, rfl, ?_, rfl, unhide HTE, ?_, ?_, unhide HLN, unhide HAB, unhide HO5, unhide HB5⟩, ?_⟩
            · exact unhide HNL
            · exact unhide HS'
            · exact unhide HPS
            · have h1 := unhide HQP
              have h2 := unhide HNL
              have h3 := unhide HLP
              simp only [intOf]
              omega
        · have hPQ' : P = Q := by have := hS.1; omega
          subst hPQ'
          rw [seg_done, List.append_nil] at hps
          subst hps
          have hl0 : left = 0 := by omega
          subst hl0
          have HF : Hid (pre ln (k + 1) = at_ * E + now ∧ now ≤ E ∧ at_ ≤ 2 * (k + 1)) := ⟨by rw [hQ]; exact hP, hnn, by omega⟩
          have HO := hide hO
          have HB := hide hb
          clear hO hb hP hnn hS hlb hab hQ hnl2 hleft hPQ
          go_wp2_with fail
          (try simp only [Exit.inBlock, Exit.then])
          (try go_wp2_with fail)
          obtain ⟨f1, f2, f3⟩ := unhide HF
          exact ⟨⟨k + 1, at_, now, by go_num, rfl, rfl, hlt, f1, f2, f3, unhide HO, unhide HB⟩, by simp [intOf]; omega⟩
    · obtain rfl : k = n := by omega
      have e1 : ¬ (k : Int) < (k : Int) := by omega
      have HO := hide hO0
      have HB := hide hb0
      clear hO0 hb0 hP0 hn0 hat0
      go_wp2
      (try simp only [Exit.inBlock, Exit.then])
      (try go_wp2)
      go_ret
      exact ⟨_, rfl, unhide HO, unhide HB⟩

end Go.Proofs.YtepgdlgifempeaaDoor
