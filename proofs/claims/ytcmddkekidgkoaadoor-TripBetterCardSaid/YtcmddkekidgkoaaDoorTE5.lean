/- Rows of edges: Grow and Concat of two rows. -/
import Derived.Test.YtcmddkekidgkoaaDoorTE4
import Derived.Deep.Upon
namespace Go.Proofs.YtcmddkekidgkoaaDoor
open Go.RowKit Go.Sort Go.Shelf

def pcells (ps : List T3) : List Value := ps.flatMap T3.cells
theorem pcells_length (ps : List T3) : (pcells ps).length = ps.length * 3 := by
  induction ps with
  | nil => rfl
  | cons t ts ih => simp only [pcells, List.flatMap_cons, List.length_append, List.length_cons] at *; simp only [T3.cells, List.length_cons, List.length_nil]; omega
theorem pcells_append (ps qs : List T3) : pcells (ps ++ qs) = pcells ps ++ pcells qs := by simp [pcells]
theorem pcells_one (t : T3) : pcells [t] = t.cells := by simp [pcells]
theorem pcells_get (ts : List T3) (j k : Nat) (hj : j < ts.length) (hk : k < 3) : (pcells ts)[j * 3 + k]? = (ts[j]!).cells[k]? := by
  induction ts generalizing j with
  | nil => simp at hj
  | cons t ts ih =>
    have e : pcells (t :: ts) = t.cells ++ pcells ts := by simp [pcells]
    have hl : t.cells.length = 3 := rfl
    rw [e]
    cases j with
    | zero => rw [List.getElem?_append_left (by omega)]; simp
    | succ j =>
      rw [List.getElem?_append_right (by omega), hl, show (j + 1) * 3 + k - 3 = j * 3 + k by omega, ih j (by simpa using hj)]
      simp
theorem cells_one (t : T3) : ∀ u ∈ t.cells, u.oneCell' = true := by
  intro u hu
  simp only [T3.cells, List.mem_cons, List.not_mem_nil, or_false] at hu
  rcases hu with rfl | rfl | rfl <;> rfl
theorem news_three (w : World) (t : T3) (T : TypeId) : ∀ j u, t.cells[j]? = some u → (w.alloc (.cells #[.int .i64 t.1, .int .i64 t.2.1, .int .i64 t.2.2] T)).cell? ((⟨w.heap.size, 0, none⟩ : Addr).add j) = some u :=
  World.news_of_block (cs := #[.int .i64 t.1, .int .i64 t.2.1, .int .i64 t.2.2]) (t := T) (fr := (0, 0)) (heap_alloc_new w _)
/-- A row of threes of the call's own, of a type. -/
def OwnT (T : TypeId) (w : World) (B : Nat) (v : Value) (ps : List T3) : Prop := w.ownsRow B T 3 v ps.length (pcells ps)
theorem OwnT.keep {T : TypeId} {w w' : World} {B : Nat} {v : Value} {ps : List T3} (h : OwnT T w B v ps) (hb : Below w.heap.size w w') : OwnT T w' B v ps := by
  refine ⟨h.1, ?_⟩
  rcases h.2 with h | ⟨g, cap, cur, hv, hg, hh, h1⟩
  · exact Or.inl h
  · exact Or.inr ⟨g, cap, cur, hv, hg, by rw [hb.block g (Array.getElem?_eq_some_iff.1 hh).1]; exact hh, h1⟩
theorem OwnT.start (T : TypeId) (w : World) (B : Nat) : OwnT T w B (.slice none 0 0) [] := World.ownsRow_nil _ _ _ _
theorem OwnT.trow {T : TypeId} {w : World} {B : Nat} {v : Value} {ps : List T3} (h : OwnT T w B v ps) : ∃ a c, v = .slice a ps.length c ∧ TRow w a ps.length c (fun j => ps[j]!) := by
  obtain ⟨h1, ⟨rfl, h2⟩ | ⟨g, cap, cur, rfl, hb, hh, hc1, hc2, hs, ht⟩⟩ := h
  · exact ⟨none, 0, by rw [h2], by omega, by decide, fun h => by omega⟩
  · refine ⟨_, _, rfl, hc1, by unfold maxLen at hc2; exact hc2, fun _ => ⟨g, 0, rfl, (Array.getElem?_eq_some_iff.1 hh).1, fun j hj => ?_⟩⟩
    have cellk : ∀ k, k < 3 → w.cell? ⟨g, 0 + j * 3 + k, none⟩ = (ps[j]!).cells[k]? := fun k hk => by
      simp only [World.cell?, hh, Nat.zero_add]
      have e : (cur.toList.take (ps.length * 3))[j * 3 + k]? = (pcells ps)[j * 3 + k]? := by rw [ht]
      rw [List.getElem?_take_of_lt (by omega), pcells_get ps j k (by omega) hk] at e
      simpa using e
    exact ⟨cellk 0 (by decide), cellk 1 (by decide), cellk 2 (by decide)⟩
theorem OwnT.row {T : TypeId} {w : World} {B : Nat} {v : Value} {ps : List T3} (h : OwnT T w B v ps) : ∀ k, v.ownBlock = some k → B ≤ k := by
  intro k hk
  obtain ⟨h1, ⟨rfl, h2⟩ | ⟨g, cap, cur, rfl, hb, _⟩⟩ := h
  · cases hk
  · obtain rfl : g = k := Option.some.inj hk
    exact hb
/-- The first k of a row. -/
def firsts (f : Nat → T3) (k : Nat) : List T3 := (List.range k).map f
theorem firsts_length (f : Nat → T3) (k : Nat) : (firsts f k).length = k := by simp [firsts]
theorem firsts_succ (f : Nat → T3) (k : Nat) : firsts f (k + 1) = firsts f k ++ [f k] := by unfold firsts; rw [List.range_succ, List.map_append]; rfl
theorem firsts_get (f : Nat → T3) {k i : Nat} (h : i < k) : (firsts f k)[i]! = f i := by simp [firsts, h]
theorem trow_congr {w : World} {a : Option Addr} {n c : Nat} {f g : Nat → T3} (h : TRow w a n c f) (e : ∀ j, j < n → f j = g j) : TRow w a n c g := by
  obtain ⟨h1, h2, h3⟩ := h
  refine ⟨h1, h2, fun hn => ?_⟩
  obtain ⟨b, o, ea, hlt, hc⟩ := h3 hn
  exact ⟨b, o, ea, hlt, fun j hj => by rw [← e j hj]; exact hc j hj⟩

theorem Tryd.infoE : (Tryd.prog.info? 81).map (fun i => (i.zero, i.size, i.bytes)) = some (some (.agg #[.int .i64 0, .int .i64 0, .int .i64 0]), 3, 24) := by kernel_rfl
theorem pcells_ones (ps : List T3) : ∀ u ∈ pcells ps, u.oneCell' = true := fun u hu => by
  obtain ⟨t, _, ht⟩ := List.mem_flatMap.1 hu
  exact cells_one t u ht
theorem TRow.src {w : World} {b o n c : Nat} {f : Nat → T3} (h : TRow w (some ⟨b, o, none⟩) n c f) : ∀ j u, (pcells (firsts f n))[j]? = some u → w.cell? ((⟨b, o, none⟩ : Addr).add j) = some u := fun j u hu => by
  have hj : j < n * 3 := by
    rcases Nat.lt_or_ge j (n * 3) with h | h
    · exact h
    · rw [List.getElem?_eq_none (by rw [pcells_length, firsts_length]; exact h)] at hu; cases hu
  obtain ⟨b2, o2, e, _, hc⟩ := h.2.2 (by omega)
  have e2 := Option.some.inj e
  injection e2 with e3 e4
  subst e3
  subst e4
  have hq : j = j / 3 * 3 + j % 3 := by omega
  have hr : j % 3 < 3 := Nat.mod_lt _ (by decide)
  rw [hq, pcells_get _ _ _ (by rw [firsts_length]; omega) hr, firsts_get f (by omega)] at hu
  rw [addr_plus, hq]
  have ⟨k0, k1, k2⟩ := hc (j / 3) (by omega)
  rw [← hu]
  match j % 3, hr with
  | 0, _ => exact k0
  | 1, _ => exact k1
  | 2, _ => exact k2
/-- A row is put behind another one. -/
theorem OwnT.app {w : World} {B : Nat} {v : Value} {ps : List T3} {a : Option Addr} {n c : Nat} {f : Nat → T3} (h : OwnT 81 w B v ps) (hx : TRow w a n c f) (hn : ps.length + n ≤ 1000) (hB : B ≤ w.heap.size) (ty : TypeId) :
    ∃ v' w', (Builtin.append_ #[22, 22] ty #[v, .slice a n c]).run Tryd.prog w = .ok v' w' ∧ OwnT 81 w' B v' (ps ++ firsts f n) ∧ w.grownBy w' v.ownBlock := by
  obtain ⟨i, hi, hz0, hz1, hz2⟩ := info_parts Tryd.infoE
  have hlen : (ps ++ firsts f n).length = ps.length + n := by rw [List.length_append, firsts_length]
  have happ : pcells (ps ++ firsts f n) = pcells ps ++ pcells (firsts f n) := pcells_append _ _
  cases a with
  | none =>
    obtain rfl : n = 0 := by
      rcases Nat.eq_zero_or_pos n with h0 | h0
      · exact h0
      · obtain ⟨_, _, e, _⟩ := hx.2.2 h0
        cases e
    have hs : Src Tryd.prog i.size 22 (.slice none 0 c) 0 [] w := Src.ofNil w Tryd.underlying22 c
    obtain ⟨a', c', rfl, ht⟩ := h.trow
    refine ⟨_, w, run_append_nothing w 22 22 ty 81 i Tryd.underlying22 hi a' _ _ ht.1 _ hs, ?_, ⟨rfl, rfl, rfl, Nat.le_refl _, fun _ _ _ => rfl⟩⟩
    have e : ps ++ firsts f 0 = ps := by simp [firsts]
    rw [e]; exact h
  | some ad =>
    have hn0 : ∀ j u, (pcells (firsts f n))[j]? = some u → w.cell? (ad.add j) = some u := by
      rcases Nat.eq_zero_or_pos n with h0 | h0
      · subst h0
        intro j u hu
        have e : pcells (firsts f 0) = [] := rfl
        rw [e] at hu
        cases hu
      · obtain ⟨b, o, e, _⟩ := hx.2.2 h0
        obtain rfl := Option.some.inj e
        exact hx.src
    obtain ⟨v', w', h1, h2, h3, _⟩ := run_append_own w B 22 ty 81 i _ 3 24 Tryd.underlying22 hi hz0 hz1 hz2 rfl (by decide) v ps.length (pcells ps) h ad n c (pcells (firsts f n)) (by rw [pcells_length, firsts_length]) hn0 (pcells_ones _) (by unfold maxLen; omega) (by omega) hB
    refine ⟨v', w', h1, ?_, h3⟩
    unfold OwnT
    rw [hlen, happ]
    exact h2

set_option maxHeartbeats 4000000 in
set_option maxRecDepth 100000 in
theorem grow_any (n : Nat) (w : World) (hn : n ≤ 1000) :
    Calls Tryd.prog 92 #[.slice none 0 0, .int .i64 (n : Int)] w fun e w' => ∃ v, e = .returned v ∧ OwnT 81 w' w.heap.size v [] ∧ Below w.heap.size w w' := by
  have n0 : ¬ (n : Int) < 0 := by omega
  have e0 : IntKind.i64.wrap ((n : Int) - 0) = (n : Int) := by rw [IntKind.wrap_i64]; omega
  have e1 : IntKind.i64.wrap (n : Int) = (n : Int) := by rw [IntKind.wrap_i64]; omega
  by_cases h0 : n = 0
  · subst h0
    go_enter Tryd.func92, Tryd.ntmps92
    go_wp2
    go_ret
    exact ⟨_, rfl, OwnT.start _ _ _, Below.refl _ _⟩
  · have hp : (0 : Int) < (n : Int) := by omega
    obtain ⟨i, hi, hz0, hz1, hz2⟩ := info_parts Tryd.infoE
    have hrun := Go.Lib.run_append_nil_zeros (P := Tryd.prog) w 22 3 22 81 i _ .i64 .i64 Tryd.underlying22 Tryd.underlying3 hi hz0 n (by omega) (by rw [hz1]; decide) (by omega) (by rw [hz2]; omega)
    have hge := grownCap_ge w n 0 81
    have hcm := grownCap_le_maxLen w n 0 81 (by unfold maxLen; omega)
    obtain ⟨K, hK⟩ : ∃ K, grownCap w n 0 81 = K := ⟨_, rfl⟩
    rw [hK] at hge hcm hrun
    obtain ⟨cs, hcs⟩ : ∃ cs : Array Value, Builtin.zeroCells (Value.agg #[.int .i64 0, .int .i64 0, .int .i64 0]).cells n ++ Builtin.zeroCells (Value.agg #[.int .i64 0, .int .i64 0, .int .i64 0]).cells (K - n) = cs := ⟨_, rfl⟩
    rw [hcs] at hrun
    have hsz : cs.size = K * 3 := by
      rw [← hcs, Array.size_append, size_zeroCells, size_zeroCells]
      have e : (Value.agg #[.int .i64 0, .int .i64 0, .int .i64 0]).cells.size = 3 := rfl
      rw [e]; omega
    have hblk : (w.drew.alloc (.cells cs 81)).heap[w.heap.size]? = some (.cells cs 81) := heap_alloc_new w.drew _
    have HB : Hid (Below w.heap.size w (w.drew.alloc (.cells cs 81))) := (drew_below w).alloc (Nat.le_refl _) _
    have HO : Hid (OwnT 81 (w.drew.alloc (.cells cs 81)) w.heap.size (.slice (some ⟨w.heap.size, 0, none⟩) 0 K) []) := ⟨rfl, Or.inr ⟨_, K, cs, rfl, Nat.le_refl _, hblk, Nat.zero_le _, hcm, hsz, by simp [pcells]⟩⟩
    obtain ⟨g, hg⟩ : ∃ g, w.heap.size = g := ⟨_, rfl⟩
    rw [hg] at hrun HB HO
    obtain ⟨W1, hW1⟩ : ∃ W, w.drew.alloc (.cells cs 81) = W := ⟨_, rfl⟩
    rw [hW1] at hrun HB HO
    have HG := hide hg
    have k1 : (0 : Int) ≤ (K : Int) := by omega
    clear hsz hblk hcs hK hge hcm hg hW1 hz0 hz1 hz2 hi
    go_enter Tryd.func92, Tryd.ntmps92
    go_wp2_with (at_builtin; go_loud (refine Go.Lib.wpList_append_run _ rfl _ _ 22 3 rfl _ _ rfl rfl _ _ hrun ?_))
    go_ret
    exact ⟨_, rfl, by rw [unhide HG]; exact unhide HO, by rw [unhide HG]; exact unhide HB⟩

def two {α : Type} (x y : α) (k : Nat) : α := if k = 0 then x else y
/-- Both rows, as far as k. -/
def preT (n1 n2 : Nat) (f1 f2 : Nat → T3) (k : Nat) : List T3 := if k = 0 then [] else if k = 1 then firsts f1 n1 else firsts f1 n1 ++ firsts f2 n2
def preN (n1 n2 k : Nat) : Nat := if k = 0 then 0 else if k = 1 then n1 else n1 + n2
theorem preT_succ (n1 n2 : Nat) (f1 f2 : Nat → T3) {k : Nat} (hk : k < 2) : preT n1 n2 f1 f2 (k + 1) = preT n1 n2 f1 f2 k ++ firsts (two f1 f2 k) (two n1 n2 k) := by
  match k, hk with
  | 0, _ => rfl
  | 1, _ => rfl
theorem preN_succ (n1 n2 : Nat) {k : Nat} (hk : k < 2) : preN n1 n2 (k + 1) = preN n1 n2 k + two n1 n2 k := by
  match k, hk with
  | 0, _ => show n1 = 0 + n1; omega
  | 1, _ => rfl
theorem preT_length (n1 n2 : Nat) (f1 f2 : Nat → T3) (k : Nat) : (preT n1 n2 f1 f2 k).length ≤ n1 + n2 := by
  unfold preT
  split
  · simp
  · split
    · rw [firsts_length]; omega
    · rw [List.length_append, firsts_length, firsts_length]; omega
theorem two_le {n1 n2 k : Nat} (hk : k < 2) : (preT n1 n2 (fun _ => (0,0,0)) (fun _ => (0,0,0)) k).length + two n1 n2 k ≤ n1 + n2 := by
  match k, hk with
  | 0, _ => show 0 + n1 ≤ n1 + n2; omega
  | 1, _ => show (firsts _ n1).length + n2 ≤ n1 + n2; rw [firsts_length]; omega
theorem two_le' {n1 n2 k : Nat} {f1 f2 : Nat → T3} (hk : k < 2) : (preT n1 n2 f1 f2 k).length + two n1 n2 k ≤ n1 + n2 := by
  match k, hk with
  | 0, _ => show 0 + n1 ≤ n1 + n2; omega
  | 1, _ => show (firsts _ n1).length + n2 ≤ n1 + n2; rw [firsts_length]; omega
def CatPost (w : World) (n1 n2 : Nat) (f1 f2 : Nat → T3) (e : Ending) (w' : World) : Prop := ∃ v, e = .returned v ∧ OwnT 81 w' w.heap.size v (firsts f1 n1 ++ firsts f2 n2) ∧ Below w.heap.size w w'
set_option maxHeartbeats 8000000 in
set_option maxRecDepth 100000 in
theorem concat_any (b : Nat) (a1 : Option Addr) (n1 c1 : Nat) (f1 : Nat → T3) (a2 : Option Addr) (n2 c2 : Nat) (f2 : Nat → T3) (w : World) (h0 : w.cell? ⟨b, 0, none⟩ = some (.slice a1 n1 c1)) (h1 : w.cell? ⟨b, 1, none⟩ = some (.slice a2 n2 c2)) (r1 : TRow w a1 n1 c1 f1) (r2 : TRow w a2 n2 c2 f2) (hn : n1 + n2 ≤ 1000) :
    Calls Tryd.prog 53 #[.slice (some ⟨b, 0, none⟩) 2 2] w (CatPost w n1 n2 f1 f2) := by
  have hbl : b < w.heap.size := World.block_lt_of_cell? w _ h0
  have HR : Hid (∀ k, k < 2 → w.cell? ⟨b, k, none⟩ = some (.slice (two a1 a2 k) (two n1 n2 k) (two c1 c2 k)) ∧ TRow w (two a1 a2 k) (two n1 n2 k) (two c1 c2 k) (two f1 f2 k) ∧ two n1 n2 k ≤ 1000) := by
    intro k hk
    match k, hk with
    | 0, _ => exact ⟨h0, r1, by show n1 ≤ 1000; omega⟩
    | 1, _ => exact ⟨h1, r2, by show n2 ≤ 1000; omega⟩
  have HG := hide (grow_any (n1 + n2) w hn)
  clear h0 h1 r1 r2
  go_enter Tryd.func53, Tryd.ntmps53
  go_wp2_with fail
  go_loopw [11, 3] (fun vi vs wr => ∃ k : Nat, vi = .int .i64 (k : Int) ∧ vs = .int .i64 ((preN n1 n2 k : Nat) : Int) ∧ k ≤ 2 ∧ wr = w) (fun vi _ _ => 2 - (intOf vi).toNat)
  case atStart => exact ⟨0, rfl, rfl, by decide, rfl⟩
  case round =>
    obtain ⟨k, rfl, rfl, hk, rfl⟩ := hrel
    by_cases hlt : k < 2
    · obtain ⟨k0, hr, hl⟩ := unhide HR k hlt
      have HS := hide (preN_succ n1 n2 hlt)
      have hpl : preN n1 n2 k ≤ n1 + n2 := by unfold preN; split <;> (try split) <;> omega
      have q1 := hr.1
      have q2 := hr.2.1
      obtain ⟨s, hs⟩ : ∃ s, preN n1 n2 k = s := ⟨_, rfl⟩
      obtain ⟨A, hA⟩ : ∃ A, two a1 a2 k = A := ⟨_, rfl⟩
      obtain ⟨N, hN⟩ : ∃ N, two n1 n2 k = N := ⟨_, rfl⟩
      obtain ⟨D, hD⟩ : ∃ D, two c1 c2 k = D := ⟨_, rfl⟩
      rw [hs] at HS hpl ⊢
      rw [hA, hN, hD] at k0
      rw [hN, hD] at q1
      rw [hD] at q2
      rw [hN] at HS hl
      have e1 : (0 : Int) ≤ (k : Int) := by omega
      have e2 : (k : Int) < 2 := by omega
      have e3 : IntKind.i64.wrap ((s : Int) + (N : Int)) = ((s + N : Nat) : Int) := by rw [IntKind.wrap_i64]; omega
      have e4 : ¬ ((s + N : Nat) : Int) < 0 := by omega
      have e5 : IntKind.i64.wrap ((k : Int) + 1) = ((k + 1 : Nat) : Int) := by rw [IntKind.wrap_i64]; omega
      obtain ⟨t, ht⟩ : ∃ t, s + N = t := ⟨_, rfl⟩
      rw [ht] at e3 e4 HS
      clear hr hs hA hN hD hpl hl ht
      go_wp2
      exact ⟨⟨k + 1, rfl, by rw [unhide HS], hlt, by first | rfl | trivial⟩, by simp [intOf]; omega⟩
    · obtain rfl : k = 2 := by omega
      obtain ⟨wq, rfl⟩ : ∃ W, W = wr := ⟨_, rfl⟩
      have e1 : ¬ ((2 : Nat) : Int) < 2 := by omega
      have e2 : (((preN n1 n2 2 : Nat) : Int)) = ((n1 + n2 : Nat) : Int) := rfl
      obtain ⟨t, ht⟩ : ∃ t, n1 + n2 = t := ⟨_, rfl⟩
      rw [ht] at e2 HG hn
      rw [e2]
      have HT := hide ht
      clear e2 ht
      go_wp2_with fail
      refine (unhide HG).mono ?_
      rintro e w1 ⟨v, rfl, hO, hb⟩
      have HO := hide hO
      have HB := hide hb
      clear hO hb HG
      go_wp2_with fail
      go_loopw [27, 6] (fun vi vv wr2 => ∃ k : Nat, vi = .int .i64 (k : Int) ∧ k ≤ 2 ∧ OwnT 81 wr2 wq.heap.size vv (preT n1 n2 f1 f2 k) ∧ Below wq.heap.size wq wr2) (fun vi _ _ => 2 - (intOf vi).toNat)
      case atStart => exact ⟨0, rfl, by decide, unhide HO, unhide HB⟩
      case round =>
        obtain ⟨k, rfl, hk2, hO, hb⟩ := hrel
        clear HO HB
        by_cases hlt2 : k < 2
        · obtain ⟨k0, hr, hl⟩ := unhide HR k hlt2
          have k0' := k0
          rw [← hb.cell (p := ⟨b, k, none⟩) hbl] at k0'
          have HS := hide (preT_succ n1 n2 f1 f2 hlt2)
          obtain ⟨v', w', hrun, hO', hgr⟩ := OwnT.app hO (hr.below hb) (by have := two_le' (n1 := n1) (n2 := n2) (f1 := f1) (f2 := f2) hlt2; have := unhide HT; omega) hb.size 22
          have HO2 : Hid (OwnT 81 w' wq.heap.size v' (preT n1 n2 f1 f2 (k + 1))) := by show OwnT _ _ _ _ _; rw [unhide HS]; exact hO'
          have HB2 := hide (Below.grown hb hgr hb.size hO.row)
          have q1 := hr.1
          have q2 := hr.2.1
          have e1 : (0 : Int) ≤ (k : Int) := by omega
          have e2 : (k : Int) < 2 := by omega
          have e5 : IntKind.i64.wrap ((k : Int) + 1) = ((k + 1 : Nat) : Int) := by rw [IntKind.wrap_i64]; omega
          obtain ⟨A, hA⟩ : ∃ A, two a1 a2 k = A := ⟨_, rfl⟩
          obtain ⟨N, hN⟩ : ∃ N, two n1 n2 k = N := ⟨_, rfl⟩
          obtain ⟨D, hD⟩ : ∃ D, two c1 c2 k = D := ⟨_, rfl⟩
          rw [hA, hN, hD] at k0' hrun
          rw [hN, hD] at q1
          rw [hD] at q2
          clear hr hO hb hO' hgr k0 hl hA hN hD
          go_wp2_with (at_builtin; go_loud (refine Go.Lib.wpList_append_run _ rfl _ _ 22 22 rfl _ _ rfl rfl _ _ hrun ?_))
          exact ⟨⟨k + 1, rfl, hlt2, unhide HO2, unhide HB2⟩, by simp [intOf]; omega⟩
        · obtain rfl : k = 2 := by omega
          have e1 : ¬ ((2 : Nat) : Int) < 2 := by omega
          have HO := hide hO
          have HB := hide hb
          clear hO hb
          go_wp2
          go_ret
          exact ⟨_, rfl, unhide HO, unhide HB⟩
end Go.Proofs.YtcmddkekidgkoaaDoor
