/- chance.Least. -/
import Derived.Test.YtcelbgleajpenaaGreatDoorA16
import Derived.BigQuiet
import Derived.Test.YtcelbgleajpenaaGreatDoorA12
import Derived.Test.YtcelbgleajpenaaGreatDoorA14
namespace Go.Proofs.YtcelbgleajpenaaGreatDoor
open Go.RowKit Go.Sort Go.Shelf

theorem sgl_neg {x y : Int} : Wd.sg x y < 0 ↔ x < y := by
  unfold Wd.sg
  split
  · simp [*]
  · split
    · simp [*]
    · constructor
      · intro h; omega
      · intro h; omega
theorem sgl_pos {x y : Int} : 0 < Wd.sg x y ↔ y < x := by
  unfold Wd.sg
  split
  · constructor
    · intro h; omega
    · intro h; omega
  · split
    · constructor
      · intro h; omega
      · intro h; omega
    · constructor
      · intro h; omega
      · intro h; omega

/-- Two boxes of fractions: what is asked for, and the sum so far. -/
structure LeastAt (w wr : World) (G : Nat) (tc t : Tri) (qc q : Rat) : Prop where
  ch : wr.heap[w.heap.size]? = some (.cells #[.bool tc.s, .slice tc.a1 tc.n1 tc.c1, .slice tc.a2 tc.n2 tc.c2] 37)
  all : wr.heap[G]? = some (.cells #[.bool t.s, .slice t.a1 t.n1 t.c1, .slice t.a2 t.n2 t.c2] 37)
  rc : RatIs wr tc.val qc
  rat : RatIs wr t.val q
  bl : Below w.heap.size w wr
  gl : w.heap.size < G

theorem LeastAt.keep {w wr w' : World} {G : Nat} {tc t : Tri} {qc q : Rat} (h : LeastAt w wr G tc t qc q) (hb : Below wr.heap.size wr w') : LeastAt w w' G tc t qc q := by
  have l1 := (Array.getElem?_eq_some_iff.1 h.ch).1
  have l2 := (Array.getElem?_eq_some_iff.1 h.all).1
  exact ⟨by rw [hb.block _ l1]; exact h.ch, by rw [hb.block _ l2]; exact h.all, h.rc.below hb, h.rat.below hb, below_step h.bl hb, h.gl⟩

theorem LeastAt.set {w wr : World} {G : Nat} {tc t t' : Tri} {qc q q' : Rat} (h : LeastAt w wr G tc t qc q) (hr : RatIs wr t'.val q') :
    LeastAt w (((wr.setCell ⟨G, 0, none⟩ (.bool t'.s)).setCell ⟨G, 1, none⟩ (.slice t'.a1 t'.n1 t'.c1)).setCell ⟨G, 2, none⟩ (.slice t'.a2 t'.n2 t'.c2)) G tc t' qc q' := by
  have rb := rat_boxed (w0 := w) hr h.all h.bl (Nat.le_of_lt h.gl) (.bool t'.s) (.slice t'.a1 t'.n1 t'.c1) (.slice t'.a2 t'.n2 t'.c2)
  have rc := rat_boxed (w0 := w) h.rc h.all h.bl (Nat.le_of_lt h.gl) (.bool t'.s) (.slice t'.a1 t'.n1 t'.c1) (.slice t'.a2 t'.n2 t'.c2)
  have ne : w.heap.size ≠ G := Nat.ne_of_lt h.gl
  refine ⟨?_, box_set h.all, rc.1, rb.1, rb.2, h.gl⟩
  rw [Below.heap_setCell _ _ _ _ ne, Below.heap_setCell _ _ _ _ ne, Below.heap_setCell _ _ _ _ ne]
  exact h.ch

theorem chk_zero {qs : List Rat} (h : chk qs = 0) : 0 < qs.length ∧ qs.length ≤ 101 ∧ (∀ j, j < qs.length → 0 ≤ qs[j]!.num) ∧ qsum qs qs.length = 1 := by
  unfold chk at h
  split at h
  · omega
  · rename_i h1
    split at h
    · omega
    · rename_i h2
      split at h
      · rename_i h3
        exact ⟨by omega, by omega, fun j hj => Int.not_lt.1 (fun hn => h2 ⟨j, hj, hn⟩), h3⟩
      · omega

/-- What Least says. -/
def LeastSays (qs : List Rat) (qc : Rat) (n k : Int) : Prop := (k = if chk qs ≠ 0 then chk qs else if qc.num ≤ 0 ∨ (qc.den : Int) < qc.num then 2 else 0) ∧ (k ≠ 0 → n = 0) ∧ (k = 0 → ∃ m : Nat, n = m ∧ m < qs.length ∧ qsum qs m < qc ∧ qc ≤ qsum qs (m + 1))

end Go.Proofs.YtcelbgleajpenaaGreatDoor
/- chance.trimmed. -/
namespace Go.Proofs.YtcelbgleajpenaaGreatDoor
open Go.RowKit Go.Sort Go.Shelf

/-- How many stay of the first n. -/
def tlen (qs : List Rat) : Nat → Nat
  | 0 => 0
  | 1 => 1
  | n + 2 => if qs[n + 1]!.num = 0 then tlen qs (n + 1) else n + 2
theorem tlen_le (qs : List Rat) : ∀ n, tlen qs n ≤ n
  | 0 => Nat.le_refl _
  | 1 => Nat.le_refl _
  | n + 2 => by
    unfold tlen
    split
    · exact Nat.le_trans (tlen_le qs (n + 1)) (by omega)
    · exact Nat.le_refl _

theorem LawIs.take {w : World} {a : Option Addr} {n c : Nat} {qs : List Rat} (h : LawIs w (.slice a n c) qs) (m : Nat) (hm : m ≤ qs.length) : LawIs w (.slice a m c) (qs.take m) := by
  obtain ⟨a', c', e, h1, h2, h3⟩ := h
  injection e with e1 e2 e3
  subst e1; subst e3
  have hl : (qs.take m).length = m := by rw [List.length_take]; omega
  refine ⟨a, c, by rw [hl], by rw [hl]; omega, h2, fun hp => ?_⟩
  rw [hl] at hp
  obtain ⟨b, o, ea, hb, hc⟩ := h3 (by omega)
  refine ⟨b, o, ea, hb, fun j hj => ?_⟩
  rw [hl] at hj
  have e : (qs.take m)[j]! = qs[j]! := by
    rw [List.getElem!_eq_getElem?_getD, List.getElem!_eq_getElem?_getD, List.getElem?_take_of_lt hj]
  rw [e]
  exact hc j (by omega)

set_option maxHeartbeats 4000000 in
set_option maxRecDepth 100000 in
set_option linter.unusedSimpArgs false in
theorem trimmedL_any (a : Option Addr) (c : Nat) (qs : List Rat) (w : World) (h : LawIs w (.slice a qs.length c) qs) (hp : 0 < qs.length) :
    Calls Tryz.prog 146 #[.slice a qs.length c] w fun e w' => e = .returned (.slice a (tlen qs qs.length) c) ∧ Below w.heap.size w w' := by
  have HL := hide h
  obtain ⟨a', c', e, h1, h2, h3⟩ := h
  injection e with e1 e2 e3
  subst e1; subst e3
  obtain ⟨b, o, rfl, hblt, hcs⟩ := h3 hp
  have HCS := hide hcs
  clear h3 e2 hcs
  have HP := hide hp
  clear hp
  go_enter Tryz.func146, Tryz.ntmps146
  go_wp2_with fail
  go_loopw [3] (fun vi wr => ∃ (n : Nat), vi = .int .i64 n ∧ n ≤ qs.length ∧ 0 < n ∧ tlen qs n = tlen qs qs.length ∧ Below w.heap.size w wr) (fun vi _ => (intOf vi).toNat)
  case atStart => exact ⟨qs.length, rfl, Nat.le_refl _, unhide HP, rfl, Below.refl _ _⟩
  case round =>
    obtain ⟨n, rfl, hn, hn0, htl, bl⟩ := hrel
    have hnc : n ≤ c := by omega
    by_cases hn1 : n = 1
    · subst hn1
      have e1 : tlen qs 1 = 1 := rfl
      rw [e1] at htl
      have HTL := hide htl
      have HBL := hide bl
      clear htl bl HCS e1
      go_wp2
      (try simp only [Exit.inBlock, Exit.then])
      go_ret
      exact ⟨by rw [← unhide HTL]; rfl, unhide HBL⟩
    · have hn2 : 1 < n := by omega
      have hd : decide ((1 : Int) < (n : Int)) = true := decide_eq_true (by omega)
      have hidx : n - 1 < qs.length := by omega
      obtain ⟨s', b1, b2, m1, d1, m2, d2, k0, k1, k2, r⟩ := unhide HCS (n - 1) hidx
      rw [← bl.cell (p := ⟨b, o + (n - 1) * 3, none⟩) hblt] at k0
      rw [← bl.cell (p := ⟨b, o + (n - 1) * 3 + 1, none⟩) hblt] at k1
      rw [← bl.cell (p := ⟨b, o + (n - 1) * 3 + 2, none⟩) hblt] at k2
      have HSG := hide (sign_any _ _ wr (r.below bl))
      have etl : tlen qs n = if qs[n - 1]!.num = 0 then tlen qs (n - 1) else n := by
        obtain ⟨m, rfl⟩ : ∃ m, n = m + 2 := ⟨n - 2, by omega⟩
        rw [tlen]; rfl
      have hj0 : (0 : Int) ≤ (n : Int) - 1 := by omega
      have hj1 : (n : Int) - 1 < (qs.length : Int) := by omega
      have ht1 : ((n : Int) - 1).toNat = n - 1 := by omega
      obtain ⟨q, hq⟩ : ∃ q, qs[n - 1]! = q := ⟨_, rfl⟩
      rw [hq] at HSG etl
      have HBL := hide bl
      have hr0 : -9223372036854775808 ≤ (n : Int) - 1 := by omega
      have hr1 : (n : Int) - 1 ≤ 9223372036854775807 := by omega
      by_cases hz : q.num = 0
      · rw [if_pos hz] at etl
        have hsz : q.num.sign = 0 := by rw [hz]; rfl
        rw [hsz] at HSG
        have HN := hide (show tlen qs (n - 1) = tlen qs qs.length from etl ▸ htl)
        have hle : n - 1 ≤ qs.length := by omega
        clear r bl HCS etl htl hq hz hsz
        go_wp2_with fail
        refine (unhide HSG).mono ?_
        rintro e w2 ⟨rfl, hb2⟩
        have HB2 := hide (below_step (unhide HBL) hb2)
        clear hb2 k0 k1 k2
        go_wp2_with fail
        exact ⟨⟨n - 1, by go_num, hle, by omega, unhide HN, unhide HB2⟩, by simp [intOf]; omega⟩
      · rw [if_neg hz] at etl
        have hsz : q.num.sign ≠ 0 := fun h => hz (Int.sign_eq_zero_iff_zero.1 h)
        have hsb := sign_bd q.num
        obtain ⟨x, hx⟩ : ∃ x, q.num.sign = x := ⟨_, rfl⟩
        rw [hx] at HSG hsz hsb
        obtain ⟨hsb0, hsb1⟩ := hsb
        have hxb : (x == 0) = false := by simpa using hsz
        have HN := hide (show n = tlen qs qs.length from etl ▸ htl)
        clear r bl HCS etl htl hq hz hsz hx
        go_wp2_with fail
        refine (unhide HSG).mono ?_
        rintro e w2 ⟨rfl, hb2⟩
        have HB2 := hide (below_step (unhide HBL) hb2)
        clear hb2 k0 k1 k2
        go_wp2
        (try simp only [Exit.inBlock, Exit.then])
        go_ret
        exact ⟨by rw [← unhide HN]; rfl, unhide HB2⟩
end Go.Proofs.YtcelbgleajpenaaGreatDoor
/- A row of fractions of the call's own, made by make and written into. -/
namespace Go.Proofs.YtcelbgleajpenaaGreatDoor
open Go.RowKit Go.Sort Go.Shelf

theorem tcells_set (us : List Tri) (j : Nat) (t : Tri) (hj : j < us.length) :
    tcells (us.set j t) = (((tcells us).set (j * 3) (.bool t.s)).set (j * 3 + 1) (.slice t.a1 t.n1 t.c1)).set (j * 3 + 2) (.slice t.a2 t.n2 t.c2) := by
  induction us generalizing j with
  | nil => simp at hj
  | cons u us ih =>
    have e : ∀ (u : Tri) us, tcells (u :: us) = .bool u.s :: .slice u.a1 u.n1 u.c1 :: .slice u.a2 u.n2 u.c2 :: tcells us := fun _ _ => rfl
    cases j with
    | zero => rw [List.set_cons_zero, e, e]; rfl
    | succ j =>
      have e1 : (j + 1) * 3 = j * 3 + 1 + 1 + 1 := by omega
      rw [List.set_cons_succ, e, e, ih j (by simpa using hj), e1]
      rfl

def zTri : Tri := ⟨false, none, none, 0, 0, 0, 0⟩

/-- A row of fractions in block g of the call's own. -/
structure SumsAt (w wr : World) (g : Nat) (us : List Tri) (qs : List Rat) : Prop where
  row : wr.heap[g]? = some (.cells (tcells us).toArray 37)
  len : us.length = qs.length
  rat : ∀ j, j < us.length → RatIs wr (us[j]!).val qs[j]!
  bl : Below w.heap.size w wr
  gl : w.heap.size ≤ g

theorem SumsAt.keep {w wr w' : World} {g : Nat} {us : List Tri} {qs : List Rat} (h : SumsAt w wr g us qs) (hb : Below wr.heap.size wr w') : SumsAt w w' g us qs :=
  ⟨by rw [hb.block _ (Array.getElem?_eq_some_iff.1 h.row).1]; exact h.row, h.len, fun j hj => (h.rat j hj).below hb, below_step h.bl hb, h.gl⟩

theorem SumsAt.cells {w wr : World} {g : Nat} {us : List Tri} {qs : List Rat} (h : SumsAt w wr g us qs) (j : Nat) (hj : j < us.length) :
    (wr.cell? ⟨g, j * 3, none⟩ = some (.bool (us[j]!).s) ∧ wr.cell? ⟨g, j * 3 + 1, none⟩ = some (.slice (us[j]!).a1 (us[j]!).n1 (us[j]!).c1) ∧ wr.cell? ⟨g, j * 3 + 2, none⟩ = some (.slice (us[j]!).a2 (us[j]!).n2 (us[j]!).c2)) ∧
    wr.frozen? ⟨g, j * 3, none⟩ = false ∧ wr.frozen? ⟨g, j * 3 + 1, none⟩ = false ∧ wr.frozen? ⟨g, j * 3 + 2, none⟩ = false := by
  have ck : ∀ k, k < 3 → wr.cell? ⟨g, j * 3 + k, none⟩ = (us[j]!).cells[k]? := fun k hk => by
    simp only [World.cell?, h.row]
    have e := tcells_get us j k hj hk
    simpa using e
  refine ⟨⟨ck 0 (by decide), ck 1 (by decide), ck 2 (by decide)⟩, ?_, ?_, ?_⟩ <;> simp [World.frozen?, h.row]

theorem sums_wordless {w wr : World} {g : Nat} {us : List Tri} {qs : List Rat} (h : SumsAt w wr g us qs) : Wordless wr g := wordless_of h.row (fun u hu => tcells_notWord us u (by simpa using hu))

theorem sums_noWord {us : List Tri} {T : TypeId} {fr : Nat × Nat} : NoWord (.cells (tcells us).toArray T fr) := by
  intro cs T' fr' e j x
  injection e with e
  subst e
  intro hx
  obtain ⟨hlt, hx⟩ := Array.getElem?_eq_some_iff.1 hx
  have := tcells_notWord us (.int .u64 x) (by rw [← hx]; simp)
  exact this

theorem RatIs.rowed {w : World} {g : Nat} {us : List Tri} {v : Value} {q : Rat} {T : TypeId} (h : RatIs w v q) (hg : w.heap[g]? = some (.cells (tcells us).toArray T)) (i0 i1 i2 : Nat) (x0 x1 x2 : Value) :
    RatIs (((w.setCell ⟨g, i0, none⟩ x0).setCell ⟨g, i1, none⟩ x1).setCell ⟨g, i2, none⟩ x2) v q := by
  refine h.other hg sums_noWord (by simp [World.setCell]) (fun k hk => ?_)
  rw [Below.heap_setCell _ _ _ _ hk, Below.heap_setCell _ _ _ _ hk, Below.heap_setCell _ _ _ _ hk]

theorem row_set {w : World} {g : Nat} {us : List Tri} {T : TypeId} (h : w.heap[g]? = some (.cells (tcells us).toArray T)) (j : Nat) (hj : j < us.length) (t : Tri) :
    (((w.setCell ⟨g, j * 3, none⟩ (.bool t.s)).setCell ⟨g, j * 3 + 1, none⟩ (.slice t.a1 t.n1 t.c1)).setCell ⟨g, j * 3 + 2, none⟩ (.slice t.a2 t.n2 t.c2)).heap[g]? = some (.cells (tcells (us.set j t)).toArray T) := by
  rw [setCell_eq, setCell_eq, setCell_eq, tcells_set us j t hj]
  simp [mapBlock, Array.getElem?_modify, h, onCells]

theorem SumsAt.set {w wr : World} {g : Nat} {us : List Tri} {qs : List Rat} (h : SumsAt w wr g us qs) (j : Nat) (hj : j < us.length) (t : Tri) (q : Rat) (hr : RatIs wr t.val q) :
    SumsAt w (((wr.setCell ⟨g, j * 3, none⟩ (.bool t.s)).setCell ⟨g, j * 3 + 1, none⟩ (.slice t.a1 t.n1 t.c1)).setCell ⟨g, j * 3 + 2, none⟩ (.slice t.a2 t.n2 t.c2)) g (us.set j t) (qs.set j q) := by
  refine ⟨row_set h.row j hj t, by rw [List.length_set, List.length_set]; exact h.len, fun k hk => ?_, ((h.bl.setCell h.gl _).setCell h.gl _).setCell h.gl _, h.gl⟩
  rw [List.length_set] at hk
  have hl := h.len
  by_cases e : j = k
  · subst e
    have e1 : (us.set j t)[j]! = t := by simp [hj]
    have e2 : (qs.set j q)[j]! = q := by simp [show j < qs.length by omega]
    rw [e1, e2]
    exact hr.rowed h.row _ _ _ _ _ _
  · have e1 : (us.set j t)[k]! = us[k]! := by simp [e]
    have e2 : (qs.set j q)[k]! = qs[k]! := by simp [e]
    rw [e1, e2]
    exact (h.rat k hk).rowed h.row _ _ _ _ _ _

/-- A whole row is a law. -/
theorem SumsAt.law {w wr : World} {g : Nat} {us : List Tri} {qs : List Rat} (h : SumsAt w wr g us qs) (hc : us.length ≤ 9223372036854775807) : LawIs wr (.slice (some ⟨g, 0, none⟩) us.length us.length) qs := by
  have hl := h.len
  refine ⟨some ⟨g, 0, none⟩, us.length, by rw [hl], by omega, hc, fun hp => ⟨g, 0, rfl, (Array.getElem?_eq_some_iff.1 h.row).1, fun j hj => ?_⟩⟩
  obtain ⟨⟨c0, c1, c2⟩, _⟩ := h.cells j (by omega)
  exact ⟨_, _, _, _, _, _, _, by rw [Nat.zero_add]; exact c0, by rw [Nat.zero_add]; exact c1, by rw [Nat.zero_add]; exact c2, h.rat j (by omega)⟩
end Go.Proofs.YtcelbgleajpenaaGreatDoor
/- make of a row of fractions. -/
namespace Go.Proofs.YtcelbgleajpenaaGreatDoor
open Go.RowKit Go.Sort Go.Shelf

theorem zcells (n : Nat) : tcells (List.replicate n zTri) = (List.range (n * 3)).map (fun i => zR[i % 3]!) := by
  induction n with
  | zero => rfl
  | succ n ih =>
    rw [List.replicate_succ', tcells_append, ih, show (n + 1) * 3 = n * 3 + 3 by omega, List.range_add, List.map_append]
    congr 1
    simp only [List.map_map]
    have e : ∀ k, k < 3 → ((fun i => zR[i % 3]!) ∘ fun x => n * 3 + x) k = zR[k]! := fun k hk => by
      show zR[(n * 3 + k) % 3]! = _
      rw [Nat.mul_comm, Nat.mul_add_mod, Nat.mod_eq_of_lt hk]
    rw [show List.range 3 = [0, 1, 2] from rfl, List.map_cons, List.map_cons, List.map_cons, List.map_nil, e 0 (by decide), e 1 (by decide), e 2 (by decide)]
    rfl

theorem make_tri (k : Int) (h0 : 0 ≤ k) (h1 : k ≤ 1099511627776) (w : World) :
    (Instr.makeSlice 63 (.int .i64 k) (.int .i64 k)).run Tryz.prog w = .ok (.slice (some ⟨w.heap.size, 0, none⟩) k.toNat k.toNat) (w.alloc (.cells (tcells (List.replicate k.toNat zTri)).toArray 37)) := by
  obtain ⟨i, hi, hz0, hz1, hz2⟩ := info_parts Tryz.infoR
  have e : madeCells (Value.agg zR).cells (k.toNat * i.size) = (tcells (List.replicate k.toNat zTri)).toArray := by
    rw [hz1, zcells]
    have hzc : (Value.agg zR).cells = zR := by simp [Value.cells, zR]
    rw [hzc]
    generalize k.toNat * 3 = n
    apply Array.ext
    · simp [madeCells]
    · intro j h1 h2
      simp [madeCells, zR]
  rw [run_make w 63 37 i (.agg zR) Tryz.underlying63 hi hz0 .i64 .i64 k k h0 (Int.le_refl _) (by rw [hz2]; omega) (by omega), e]

theorem SumsAt.start (w w1 : World) (n : Nat) (hb : Below w.heap.size w w1) : SumsAt w (w1.alloc (.cells (tcells (List.replicate n zTri)).toArray 37)) w1.heap.size (List.replicate n zTri) (List.replicate n 0) := by
  refine ⟨heap_alloc_new w1 _, by rw [List.length_replicate, List.length_replicate], fun j hj => ?_, below_step hb (alloc_below w1 _), hb.size⟩
  rw [List.length_replicate] at hj
  have e1 : (List.replicate n zTri)[j]! = zTri := by simp [hj]
  have e2 : (List.replicate n (0 : Rat))[j]! = 0 := by simp [hj]
  rw [e1, e2]
  exact ⟨.slice none 0 0, .slice none 0 0, rfl, natIs_zero _ none 0 (by decide), natIs_zero _ none 0 (by decide)⟩
end Go.Proofs.YtcelbgleajpenaaGreatDoor
/- chance.Both. -/
namespace Go.Proofs.YtcelbgleajpenaaGreatDoor
open Go.RowKit Go.Sort Go.Shelf

/-- What one amount adds. -/
def rowAdd (B : List Rat) (x : Rat) (i : Nat) : Nat → List Rat → List Rat
  | 0, l => l
  | j + 1, l => (rowAdd B x i j l).set (i + j) ((rowAdd B x i j l)[i + j]! + x * B[j]!)
/-- The sums behind i amounts of the first. -/
def conv (A B : List Rat) (n K : Nat) : Nat → List Rat
  | 0 => List.replicate K 0
  | i + 1 => rowAdd B A[i]! i n (conv A B n K i)

theorem tlen_pos (qs : List Rat) : ∀ {n}, 0 < n → 0 < tlen qs n
  | 1, _ => Nat.one_pos
  | n + 2, _ => by
    unfold tlen
    split
    · exact tlen_pos qs (Nat.succ_pos n)
    · omega

structure InAt (w wi : World) (G gx : Nat) (us : List Tri) (l : List Rat) (tx : Tri) (qx : Rat) : Prop where
  sums : SumsAt w wi G us l
  bx : wi.heap[gx]? = some (.cells #[.bool tx.s, .slice tx.a1 tx.n1 tx.c1, .slice tx.a2 tx.n2 tx.c2] 37)
  rx : RatIs wi tx.val qx
  ne : gx ≠ G

theorem InAt.keep {w wi w' : World} {G gx : Nat} {us : List Tri} {l : List Rat} {tx : Tri} {qx : Rat} (h : InAt w wi G gx us l tx qx) (hb : Below wi.heap.size wi w') : InAt w w' G gx us l tx qx :=
  ⟨h.sums.keep hb, by rw [hb.block _ (Array.getElem?_eq_some_iff.1 h.bx).1]; exact h.bx, h.rx.below hb, h.ne⟩

theorem InAt.set {w wi : World} {G gx : Nat} {us : List Tri} {l : List Rat} {tx : Tri} {qx : Rat} (h : InAt w wi G gx us l tx qx) (j : Nat) (hj : j < us.length) (t : Tri) (q : Rat) (hr : RatIs wi t.val q) :
    InAt w (((wi.setCell ⟨G, j * 3, none⟩ (.bool t.s)).setCell ⟨G, j * 3 + 1, none⟩ (.slice t.a1 t.n1 t.c1)).setCell ⟨G, j * 3 + 2, none⟩ (.slice t.a2 t.n2 t.c2)) G gx (us.set j t) (l.set j q) tx qx := by
  refine ⟨h.sums.set j hj t q hr, ?_, h.rx.rowed h.sums.row _ _ _ _ _ _, h.ne⟩
  rw [Below.heap_setCell _ _ _ _ h.ne, Below.heap_setCell _ _ _ _ h.ne, Below.heap_setCell _ _ _ _ h.ne]
  exact h.bx

theorem set_RS {l : List Rat} {K k0 : Nat} {q : Rat} {a b : Nat} (h : ∀ k, k < K → RS l[k]! a) (hl : l.length = K) (hq : RS q b) (hab : a ≤ b) : ∀ k, k < K → RS (l.set k0 q)[k]! b := fun k hk => by
  by_cases e : k0 = k
  · subst e
    have e1 : (l.set k0 q)[k0]! = q := by simp [show k0 < l.length by omega]
    rw [e1]; exact hq
  · have e1 : (l.set k0 q)[k]! = l[k]! := by simp [e]
    rw [e1]; exact (h k hk).mono hab

end Go.Proofs.YtcelbgleajpenaaGreatDoor
/- The checker's coins. -/
namespace Go.Proofs.YtcelbgleajpenaaGreatDoor
open Go.RowKit Go.Sort Go.Shelf

def h2 : Rat := Rat.divInt 1 2
theorem h2_num : h2.num = 1 := by rfl
theorem h2_den : h2.den = 2 := by rfl
theorem h2_sum0 : h2 + h2 = Rat.divInt 4 4 := Rat.divInt_add_divInt 1 1 (by decide) (by decide)
theorem h2_sum : h2 + h2 = 1 := by rw [h2_sum0]; exact Rat.ext rfl rfl
theorem h2_mul : h2 * h2 = Rat.divInt 1 4 := Rat.divInt_mul_divInt 1 1
theorem h4_sum : Rat.divInt 1 4 + Rat.divInt 1 4 = h2 := (Rat.divInt_add_divInt 1 1 (by decide) (by decide)).trans (Rat.ext rfl rfl)
theorem h2_conv : (conv [h2, h2] [h2, h2] 2 3 2)[1]! = h2 := by
  show (0 : Rat) + h2 * h2 + h2 * h2 = h2
  rw [h2_mul, Rat.zero_add]; exact h4_sum
theorem conv_len : (conv [h2, h2] [h2, h2] 2 3 2).length = 3 := by rfl
theorem h2_tlen : tlen [h2, h2] 2 = 2 := by rfl
theorem h2_RS : RS h2 1 := ⟨by rw [h2_num]; decide, by rw [h2_den]; decide⟩
theorem h2_all : ∀ j, j < [h2, h2].length → ([h2, h2] : List Rat)[j]! = h2
  | 0, _ => rfl
  | 1, _ => rfl
theorem h2_chk : chk [h2, h2] = 0 := by
  unfold chk
  rw [if_neg (by decide), if_neg, if_pos]
  · show (0 : Rat) + h2 + h2 = 1
    rw [Rat.zero_add]; exact h2_sum
  · rintro ⟨j, hj, hn⟩
    rw [h2_all j hj, h2_num] at hn
    exact absurd hn (by decide)
theorem dec1 (k : Nat) (h : k < 10) : Lib.decDigits k = [UInt8.ofNat (48 + k)] := by
  unfold Lib.decDigits
  rw [dif_pos h]
theorem h2_text : qtext h2 = [49, 47, 50] := by
  simp [qtext, upperText, h2_num, h2_den, dec1]

theorem two_sums {w wr : World} {g : Nat} {t : Tri} (hrow : wr.heap[g]? = some (.cells #[.bool t.s, .slice t.a1 t.n1 t.c1, .slice t.a2 t.n2 t.c2, .bool t.s, .slice t.a1 t.n1 t.c1, .slice t.a2 t.n2 t.c2] 37)) (hr : RatIs wr t.val h2) (bl : Below w.heap.size w wr) (gl : w.heap.size ≤ g) :
    LawIs wr (.slice (some ⟨g, 0, none⟩) 2 2) [h2, h2] :=
  SumsAt.law (w := w) (us := [t, t]) ⟨hrow, rfl, fun j hj => match j, hj with | 0, _ => hr | 1, _ => hr, bl, gl⟩ (by show 2 ≤ 9223372036854775807; omega)

end Go.Proofs.YtcelbgleajpenaaGreatDoor
/- Sums: means of what is beyond, of two amounts together. -/
namespace Go.Proofs.YtcelbgleajpenaaGreatDoor

theorem whole_RS {x : Int} (h : I64 x) : RS ((x : Int) : Rat) 1 := by
  obtain ⟨h1, h2⟩ := h
  have e : Wd.pw 1 = 18446744073709551616 := Wd.pw_one
  refine ⟨?_, ?_⟩
  · rw [e]; show (x.natAbs : Int) < _; omega
  · rw [e]; show ((1 : Nat) : Int) < _; decide

def wsum (qs : List Rat) (F : Nat → Int) : Nat → Rat
  | 0 => 0
  | k + 1 => wsum qs F k + qs[k]! * ((F k : Int) : Rat)
/-! what is beyond -/
def over (n : Nat) (j : Nat) : Int := max ((j : Int) - (n : Int)) 0

theorem over_step (qs : List Rat) (n k : Nat) : wsum qs (over n) k - wsum qs (over (n + 1)) k = qsum qs k - qsum qs (min k (n + 1)) := by
  induction k with
  | zero => simp [wsum, qsum]
  | succ k ih =>
    by_cases h : k < n + 1
    · have e : over n k = 0 := by unfold over; omega
      have e' : over (n + 1) k = 0 := by unfold over; omega
      have m1 : min k (n + 1) = k := by omega
      have m2 : min (k + 1) (n + 1) = k + 1 := by omega
      rw [m1] at ih
      rw [m2]
      simp only [wsum, qsum, e, e']
      grind
    · have e : over n k = over (n + 1) k + 1 := by unfold over; omega
      have m1 : min k (n + 1) = n + 1 := by omega
      have m2 : min (k + 1) (n + 1) = n + 1 := by omega
      rw [m1] at ih
      rw [m2]
      generalize qsum qs (n + 1) = y at *
      simp only [wsum, qsum, e]
      have c : ((over (n + 1) k + 1 : Int) : Rat) = ((over (n + 1) k : Int) : Rat) + 1 := by rw [Rat.intCast_add]; rfl
      rw [c]
      grind

theorem wsum_congr (qs : List Rat) {F G : Nat → Int} (k : Nat) (h : ∀ j, j < k → F j = G j) : wsum qs F k = wsum qs G k := by
  induction k with
  | zero => rfl
  | succ k ih => simp only [wsum]; rw [ih (fun j hj => h j (by omega)), h k (by omega)]

theorem wsum_cut (qs : List Rat) (F : Nat → Int) (n k : Nat) (hn : n ≤ k) (h : ∀ j, n ≤ j → j < k → qs[j]! = 0) : wsum qs F k = wsum qs F n := by
  induction k with
  | zero => obtain rfl : n = 0 := by omega
            rfl
  | succ k ih =>
    rcases Nat.lt_or_ge k n with h' | h'
    · obtain rfl : n = k + 1 := by omega
      rfl
    · simp only [wsum]
      rw [ih h' (fun j h1 h2 => h j h1 (by omega)), h k h' (by omega)]
      grind

theorem qsum_one (qs : List Rat) (k : Nat) : qsum qs k = wsum qs (fun _ => 1) k := by
  induction k with
  | zero => rfl
  | succ k ih => simp only [wsum, qsum]; rw [ih]; have : ((1 : Int) : Rat) = 1 := rfl; rw [this]; grind

/-! two amounts together -/
theorem rowAdd_length (B : List Rat) (x : Rat) (i j : Nat) (l : List Rat) : (rowAdd B x i j l).length = l.length := by
  induction j with
  | zero => rfl
  | succ j ih => simp only [rowAdd, List.length_set]; exact ih
theorem conv_length (A B : List Rat) (n K i : Nat) : (conv A B n K i).length = K := by
  induction i with
  | zero => simp [conv]
  | succ i ih => simp only [conv]; rw [rowAdd_length]; exact ih

theorem wsum_set (l : List Rat) (F : Nat → Int) (p : Nat) (x : Rat) (hp : p < l.length) (k : Nat) (hk : k ≤ l.length) : wsum (l.set p x) F k = wsum l F k + (if p < k then (x - l[p]!) * ((F p : Int) : Rat) else 0) := by
  induction k with
  | zero => simp only [wsum, Nat.not_lt_zero, if_false]; grind
  | succ k ih =>
    simp only [wsum]
    rw [ih (by omega)]
    by_cases h : p = k
    · subst h
      have e : (l.set p x)[p]! = x := by simp [hp]
      rw [e, if_neg (by omega), if_pos (by omega)]
      grind
    · have e : (l.set p x)[k]! = l[k]! := by simp [h]
      rw [e]
      by_cases h' : p < k
      · rw [if_pos h', if_pos (by omega)]; grind
      · rw [if_neg h', if_neg (by omega)]; grind

theorem rowAdd_sum (B : List Rat) (x : Rat) (F : Nat → Int) (i n : Nat) (l : List Rat) (h : i + n ≤ l.length) : wsum (rowAdd B x i n l) F l.length = wsum l F l.length + x * wsum B (fun j => F (i + j)) n := by
  induction n with
  | zero => simp only [rowAdd, wsum]; grind
  | succ n ih =>
    have hl := rowAdd_length B x i n l
    have ih' := ih (by omega)
    simp only [rowAdd]
    have := wsum_set (rowAdd B x i n l) F (i + n) ((rowAdd B x i n l)[i + n]! + x * B[n]!) (by omega) l.length (by omega)
    rw [if_pos (by omega)] at this
    rw [this, ih']
    simp only [wsum]
    grind

/-- The double sum. -/
def dsum (A B : List Rat) (F : Nat → Int) (n : Nat) : Nat → Rat
  | 0 => 0
  | i + 1 => dsum A B F n i + A[i]! * wsum B (fun j => F (i + j)) n

theorem wsum_zeros (F : Nat → Int) (K k : Nat) (h : k ≤ K) : wsum (List.replicate K 0) F k = 0 := by
  induction k with
  | zero => rfl
  | succ k ih =>
    have e : (List.replicate K (0 : Rat))[k]! = 0 := by simp [show k < K by omega]
    simp only [wsum]
    rw [ih (by omega), e]
    grind

theorem conv_sum (A B : List Rat) (F : Nat → Int) (n K i : Nat) (h : i + n ≤ K + 1) : wsum (conv A B n K i) F K = dsum A B F n i := by
  induction i with
  | zero => simp only [conv, dsum]; exact wsum_zeros F K K (Nat.le_refl _)
  | succ i ih =>
    have hl := conv_length A B n K i
    simp only [conv, dsum]
    have := rowAdd_sum B A[i]! F i n (conv A B n K i) (by omega)
    rw [hl] at this
    rw [this, ih (by omega)]

theorem wsum_add (B : List Rat) (F G : Nat → Int) (n : Nat) : wsum B (fun j => F j + G j) n = wsum B F n + wsum B G n := by
  induction n with
  | zero => simp only [wsum]; grind
  | succ n ih => simp only [wsum]; rw [ih, Rat.intCast_add]; grind
theorem wsum_mul (B : List Rat) (c : Int) (G : Nat → Int) (n : Nat) : wsum B (fun j => c * G j) n = ((c : Int) : Rat) * wsum B G n := by
  induction n with
  | zero => simp only [wsum]; grind
  | succ n ih => simp only [wsum]; rw [ih, Rat.intCast_mul]; grind

/-- Sums over all pairs: of the first power, of the second. -/
theorem dsum_first (A B : List Rat) (n m : Nat) (hB : wsum B (fun _ => 1) n = 1) : dsum A B (fun k => (k : Int)) n m = wsum A (fun j => (j : Int)) m + wsum A (fun _ => 1) m * wsum B (fun j => (j : Int)) n := by
  induction m with
  | zero => simp only [dsum, wsum]; grind
  | succ m ih =>
    have e : wsum B (fun j => ((m + j : Nat) : Int)) n = ((m : Int) : Rat) * wsum B (fun _ => 1) n + wsum B (fun j => (j : Int)) n := by
      rw [← wsum_mul, ← wsum_add]
      exact wsum_congr B n (fun j _ => by omega)
    simp only [dsum, wsum]
    rw [ih, e, hB]
    have : ((1 : Int) : Rat) = 1 := rfl
    rw [this]
    grind

theorem dsum_second (A B : List Rat) (n m : Nat) (hB : wsum B (fun _ => 1) n = 1) :
    dsum A B (fun k => (k : Int) * k) n m = wsum A (fun j => (j : Int) * j) m + 2 * wsum A (fun j => (j : Int)) m * wsum B (fun j => (j : Int)) n + wsum A (fun _ => 1) m * wsum B (fun j => (j : Int) * j) n := by
  induction m with
  | zero => simp only [dsum, wsum]; grind
  | succ m ih =>
    have e : wsum B (fun j => ((m + j : Nat) : Int) * ((m + j : Nat) : Int)) n = ((m : Int) * m : Int) * wsum B (fun _ => 1) n + ((2 * m : Int) : Rat) * wsum B (fun j => (j : Int)) n + wsum B (fun j => (j : Int) * j) n := by
      rw [← wsum_mul, ← wsum_mul, ← wsum_add, ← wsum_add]
      refine wsum_congr B n (fun j _ => ?_)
      have : ((m + j : Nat) : Int) = (m : Int) + j := by omega
      rw [this]
      grind
    simp only [dsum, wsum]
    rw [ih, e, hB, Rat.intCast_mul, Rat.intCast_mul]
    have h1 : ((1 : Int) : Rat) = 1 := rfl
    have h2 : ((2 : Int) : Rat) = 2 := rfl
    rw [h1, h2]
    grind
end Go.Proofs.YtcelbgleajpenaaGreatDoor
