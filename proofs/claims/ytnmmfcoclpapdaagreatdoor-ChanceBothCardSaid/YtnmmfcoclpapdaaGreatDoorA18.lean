/- A row of fractions of the call's own, made by make and written into. -/
import Derived.Test.YtnmmfcoclpapdaaGreatDoorA17
import Derived.Test.YtnmmfcoclpapdaaGreatDoorA12
import Derived.Test.YtnmmfcoclpapdaaGreatDoorA14
namespace Go.Proofs.YtnmmfcoclpapdaaGreatDoor
open Go.RowKit Go.Sort Go.Shelf

theorem tcells_set (us : List Tri) (j : Nat) (t : Tri) (hj : j < us.length) :
    tcells (us.set j t) = (((tcells us).set (j * 3) (.bool t.s)).set (j * 3 + 1) (.slice t.a1 t.n1 t.c1)).set (j * 3 + 2) (.slice t.a2 t.n2 t.c2) := by
  induction us generalizing j with
  | nil => simp at hj
  | cons u us ih =>
    have e : ∀ (u : Tri) us, tcells (u :: us) = .bool u.s :: .slice u.a1 u.n1 u.c1 :: .slice u.a2 u.n2 u.c2 :: tcells us := fun _ _ => rfl
    cases j with
    | zero => rw [List.set_cons_zero, e, e]; rfl
    | succ j =>
      have e1 : (j + 1) * 3 = j * 3 + 1 + 1 + 1 := by omega
      rw [List.set_cons_succ, e, e, ih j (by simpa using hj), e1]
      rfl

def zTri : Tri := ⟨false, none, none, 0, 0, 0, 0⟩

/-- A row of fractions in block g of the call's own. -/
structure SumsAt (w wr : World) (g : Nat) (us : List Tri) (qs : List Rat) : Prop where
  row : wr.heap[g]? = some (.cells (tcells us).toArray 27)
  len : us.length = qs.length
  rat : ∀ j, j < us.length → RatIs wr (us[j]!).val qs[j]!
  bl : Below w.heap.size w wr
  gl : w.heap.size ≤ g

theorem SumsAt.keep {w wr w' : World} {g : Nat} {us : List Tri} {qs : List Rat} (h : SumsAt w wr g us qs) (hb : Below wr.heap.size wr w') : SumsAt w w' g us qs :=
  ⟨by rw [hb.block _ (Array.getElem?_eq_some_iff.1 h.row).1]; exact h.row, h.len, fun j hj => (h.rat j hj).below hb, below_step h.bl hb, h.gl⟩

theorem SumsAt.cells {w wr : World} {g : Nat} {us : List Tri} {qs : List Rat} (h : SumsAt w wr g us qs) (j : Nat) (hj : j < us.length) :
    (wr.cell? ⟨g, j * 3, none⟩ = some (.bool (us[j]!).s) ∧ wr.cell? ⟨g, j * 3 + 1, none⟩ = some (.slice (us[j]!).a1 (us[j]!).n1 (us[j]!).c1) ∧ wr.cell? ⟨g, j * 3 + 2, none⟩ = some (.slice (us[j]!).a2 (us[j]!).n2 (us[j]!).c2)) ∧
    wr.frozen? ⟨g, j * 3, none⟩ = false ∧ wr.frozen? ⟨g, j * 3 + 1, none⟩ = false ∧ wr.frozen? ⟨g, j * 3 + 2, none⟩ = false := by
  have ck : ∀ k, k < 3 → wr.cell? ⟨g, j * 3 + k, none⟩ = (us[j]!).cells[k]? := fun k hk => by
    simp only [World.cell?, h.row]
    have e := tcells_get us j k hj hk
    simpa using e
  refine ⟨⟨ck 0 (by decide), ck 1 (by decide), ck 2 (by decide)⟩, ?_, ?_, ?_⟩ <;> simp [World.frozen?, h.row]

theorem sums_wordless {w wr : World} {g : Nat} {us : List Tri} {qs : List Rat} (h : SumsAt w wr g us qs) : Wordless wr g := wordless_of h.row (fun u hu => tcells_notWord us u (by simpa using hu))

theorem sums_noWord {us : List Tri} {T : TypeId} {fr : Nat × Nat} : NoWord (.cells (tcells us).toArray T fr) := by
  intro cs T' fr' e j x
  injection e with e
  subst e
  intro hx
  obtain ⟨hlt, hx⟩ := Array.getElem?_eq_some_iff.1 hx
  have := tcells_notWord us (.int .u64 x) (by rw [← hx]; simp)
  exact this

theorem RatIs.rowed {w : World} {g : Nat} {us : List Tri} {v : Value} {q : Rat} {T : TypeId} (h : RatIs w v q) (hg : w.heap[g]? = some (.cells (tcells us).toArray T)) (i0 i1 i2 : Nat) (x0 x1 x2 : Value) :
    RatIs (((w.setCell ⟨g, i0, none⟩ x0).setCell ⟨g, i1, none⟩ x1).setCell ⟨g, i2, none⟩ x2) v q := by
  refine h.other hg sums_noWord (by simp [World.setCell]) (fun k hk => ?_)
  rw [Below.heap_setCell _ _ _ _ hk, Below.heap_setCell _ _ _ _ hk, Below.heap_setCell _ _ _ _ hk]

theorem row_set {w : World} {g : Nat} {us : List Tri} {T : TypeId} (h : w.heap[g]? = some (.cells (tcells us).toArray T)) (j : Nat) (hj : j < us.length) (t : Tri) :
    (((w.setCell ⟨g, j * 3, none⟩ (.bool t.s)).setCell ⟨g, j * 3 + 1, none⟩ (.slice t.a1 t.n1 t.c1)).setCell ⟨g, j * 3 + 2, none⟩ (.slice t.a2 t.n2 t.c2)).heap[g]? = some (.cells (tcells (us.set j t)).toArray T) := by
  rw [setCell_eq, setCell_eq, setCell_eq, tcells_set us j t hj]
  simp [mapBlock, Array.getElem?_modify, h, onCells]

theorem SumsAt.set {w wr : World} {g : Nat} {us : List Tri} {qs : List Rat} (h : SumsAt w wr g us qs) (j : Nat) (hj : j < us.length) (t : Tri) (q : Rat) (hr : RatIs wr t.val q) :
    SumsAt w (((wr.setCell ⟨g, j * 3, none⟩ (.bool t.s)).setCell ⟨g, j * 3 + 1, none⟩ (.slice t.a1 t.n1 t.c1)).setCell ⟨g, j * 3 + 2, none⟩ (.slice t.a2 t.n2 t.c2)) g (us.set j t) (qs.set j q) := by
  refine ⟨row_set h.row j hj t, by rw [List.length_set, List.length_set]; exact h.len, fun k hk => ?_, ((h.bl.setCell h.gl _).setCell h.gl _).setCell h.gl _, h.gl⟩
  rw [List.length_set] at hk
  have hl := h.len
  by_cases e : j = k
  · subst e
    have e1 : (us.set j t)[j]! = t := by simp [hj]
    have e2 : (qs.set j q)[j]! = q := by simp [show j < qs.length by omega]
    rw [e1, e2]
    exact hr.rowed h.row _ _ _ _ _ _
  · have e1 : (us.set j t)[k]! = us[k]! := by simp [e]
    have e2 : (qs.set j q)[k]! = qs[k]! := by simp [e]
    rw [e1, e2]
    exact (h.rat k hk).rowed h.row _ _ _ _ _ _

/-- A whole row is a law. -/
theorem SumsAt.law {w wr : World} {g : Nat} {us : List Tri} {qs : List Rat} (h : SumsAt w wr g us qs) (hc : us.length ≤ 9223372036854775807) : LawIs wr (.slice (some ⟨g, 0, none⟩) us.length us.length) qs := by
  have hl := h.len
  refine ⟨some ⟨g, 0, none⟩, us.length, by rw [hl], by omega, hc, fun hp => ⟨g, 0, rfl, (Array.getElem?_eq_some_iff.1 h.row).1, fun j hj => ?_⟩⟩
  obtain ⟨⟨c0, c1, c2⟩, _⟩ := h.cells j (by omega)
  exact ⟨_, _, _, _, _, _, _, by rw [Nat.zero_add]; exact c0, by rw [Nat.zero_add]; exact c1, by rw [Nat.zero_add]; exact c2, h.rat j (by omega)⟩
end Go.Proofs.YtnmmfcoclpapdaaGreatDoor
/- make of a row of fractions. -/
namespace Go.Proofs.YtnmmfcoclpapdaaGreatDoor
open Go.RowKit Go.Sort Go.Shelf

theorem zcells (n : Nat) : tcells (List.replicate n zTri) = (List.range (n * 3)).map (fun i => zR[i % 3]!) := by
  induction n with
  | zero => rfl
  | succ n ih =>
    rw [List.replicate_succ', tcells_append, ih, show (n + 1) * 3 = n * 3 + 3 by omega, List.range_add, List.map_append]
    congr 1
    simp only [List.map_map]
    have e : ∀ k, k < 3 → ((fun i => zR[i % 3]!) ∘ fun x => n * 3 + x) k = zR[k]! := fun k hk => by
      show zR[(n * 3 + k) % 3]! = _
      rw [Nat.mul_comm, Nat.mul_add_mod, Nat.mod_eq_of_lt hk]
    rw [show List.range 3 = [0, 1, 2] from rfl, List.map_cons, List.map_cons, List.map_cons, List.map_nil, e 0 (by decide), e 1 (by decide), e 2 (by decide)]
    rfl

theorem make_tri (k : Int) (h0 : 0 ≤ k) (h1 : k ≤ 1099511627776) (w : World) :
    (Instr.makeSlice 72 (.int .i64 k) (.int .i64 k)).run Tryz.prog w = .ok (.slice (some ⟨w.heap.size, 0, none⟩) k.toNat k.toNat) (w.alloc (.cells (tcells (List.replicate k.toNat zTri)).toArray 27)) := by
  obtain ⟨i, hi, hz0, hz1, hz2⟩ := info_parts Tryz.infoR
  have e : madeCells (Value.agg zR).cells (k.toNat * i.size) = (tcells (List.replicate k.toNat zTri)).toArray := by
    rw [hz1, zcells]
    have hzc : (Value.agg zR).cells = zR := by simp [Value.cells, zR]
    rw [hzc]
    generalize k.toNat * 3 = n
    apply Array.ext
    · simp [madeCells]
    · intro j h1 h2
      simp [madeCells, zR]
  rw [run_make w 72 27 i (.agg zR) Tryz.underlying72 hi hz0 .i64 .i64 k k h0 (Int.le_refl _) (by rw [hz2]; omega) (by omega), e]

theorem SumsAt.start (w w1 : World) (n : Nat) (hb : Below w.heap.size w w1) : SumsAt w (w1.alloc (.cells (tcells (List.replicate n zTri)).toArray 27)) w1.heap.size (List.replicate n zTri) (List.replicate n 0) := by
  refine ⟨heap_alloc_new w1 _, by rw [List.length_replicate, List.length_replicate], fun j hj => ?_, below_step hb (alloc_below w1 _), hb.size⟩
  rw [List.length_replicate] at hj
  have e1 : (List.replicate n zTri)[j]! = zTri := by simp [hj]
  have e2 : (List.replicate n (0 : Rat))[j]! = 0 := by simp [hj]
  rw [e1, e2]
  exact ⟨.slice none 0 0, .slice none 0 0, rfl, natIs_zero _ none 0 (by decide), natIs_zero _ none 0 (by decide)⟩
end Go.Proofs.YtnmmfcoclpapdaaGreatDoor
/- chance.Both. -/
namespace Go.Proofs.YtnmmfcoclpapdaaGreatDoor
open Go.RowKit Go.Sort Go.Shelf

/-- What one amount adds. -/
def rowAdd (B : List Rat) (x : Rat) (i : Nat) : Nat → List Rat → List Rat
  | 0, l => l
  | j + 1, l => (rowAdd B x i j l).set (i + j) ((rowAdd B x i j l)[i + j]! + x * B[j]!)
/-- The sums behind i amounts of the first. -/
def conv (A B : List Rat) (n K : Nat) : Nat → List Rat
  | 0 => List.replicate K 0
  | i + 1 => rowAdd B A[i]! i n (conv A B n K i)

theorem tlen_pos (qs : List Rat) : ∀ {n}, 0 < n → 0 < tlen qs n
  | 1, _ => Nat.one_pos
  | n + 2, _ => by
    unfold tlen
    split
    · exact tlen_pos qs (Nat.succ_pos n)
    · omega

structure InAt (w wi : World) (G gx : Nat) (us : List Tri) (l : List Rat) (tx : Tri) (qx : Rat) : Prop where
  sums : SumsAt w wi G us l
  bx : wi.heap[gx]? = some (.cells #[.bool tx.s, .slice tx.a1 tx.n1 tx.c1, .slice tx.a2 tx.n2 tx.c2] 27)
  rx : RatIs wi tx.val qx
  ne : gx ≠ G

theorem InAt.keep {w wi w' : World} {G gx : Nat} {us : List Tri} {l : List Rat} {tx : Tri} {qx : Rat} (h : InAt w wi G gx us l tx qx) (hb : Below wi.heap.size wi w') : InAt w w' G gx us l tx qx :=
  ⟨h.sums.keep hb, by rw [hb.block _ (Array.getElem?_eq_some_iff.1 h.bx).1]; exact h.bx, h.rx.below hb, h.ne⟩

theorem InAt.set {w wi : World} {G gx : Nat} {us : List Tri} {l : List Rat} {tx : Tri} {qx : Rat} (h : InAt w wi G gx us l tx qx) (j : Nat) (hj : j < us.length) (t : Tri) (q : Rat) (hr : RatIs wi t.val q) :
    InAt w (((wi.setCell ⟨G, j * 3, none⟩ (.bool t.s)).setCell ⟨G, j * 3 + 1, none⟩ (.slice t.a1 t.n1 t.c1)).setCell ⟨G, j * 3 + 2, none⟩ (.slice t.a2 t.n2 t.c2)) G gx (us.set j t) (l.set j q) tx qx := by
  refine ⟨h.sums.set j hj t q hr, ?_, h.rx.rowed h.sums.row _ _ _ _ _ _, h.ne⟩
  rw [Below.heap_setCell _ _ _ _ h.ne, Below.heap_setCell _ _ _ _ h.ne, Below.heap_setCell _ _ _ _ h.ne]
  exact h.bx

theorem set_RS {l : List Rat} {K k0 : Nat} {q : Rat} {a b : Nat} (h : ∀ k, k < K → RS l[k]! a) (hl : l.length = K) (hq : RS q b) (hab : a ≤ b) : ∀ k, k < K → RS (l.set k0 q)[k]! b := fun k hk => by
  by_cases e : k0 = k
  · subst e
    have e1 : (l.set k0 q)[k0]! = q := by simp [show k0 < l.length by omega]
    rw [e1]; exact hq
  · have e1 : (l.set k0 q)[k]! = l[k]! := by simp [e]
    rw [e1]; exact (h k hk).mono hab

set_option maxHeartbeats 8000000 in
set_option maxRecDepth 100000 in
set_option linter.unusedSimpArgs false in
theorem both_any (va vb : Value) (qa qb : List Rat) (J : Nat) (w : World) (ha : LawIs w va qa) (hb : LawIs w vb qb) (hqa : ∀ j, j < qa.length → RS qa[j]! J) (hqb : ∀ j, j < qb.length → RS qb[j]! J) (hJ : 1000000 * (J + 1) ≤ KK)
    (ca : chk qa = 0) (cb : chk qb = 0) (hlim : tlen qa qa.length + tlen qb qb.length ≤ 102) :
    Calls Tryz.prog 61 #[va, vb] w fun e w' => ∃ v, e = .returned (.tuple #[v, .nilIface]) ∧ LawIs w' v (conv qa qb (tlen qb qb.length) (tlen qa qa.length + tlen qb qb.length - 1) (tlen qa qa.length)) ∧ Below w.heap.size w w' := by
  obtain ⟨a1, a2, -, -⟩ := chk_zero ca
  obtain ⟨b1, b2, -, -⟩ := chk_zero cb
  have HCA : ∀ w', Below w.heap.size w w' → Calls Tryz.prog 43 #[va] w' fun e w2 => e = .returned .nilIface ∧ Below w.heap.size w w2 := fun w' h =>
    (check_any va qa J w' (ha.below h) hqa (by have := Nat.mul_le_mul_right (J + 1) a2; omega)).mono (by rintro e w2 ⟨rfl, h2⟩; exact ⟨by rw [ca]; rfl, below_step h h2⟩)
  have HCB : ∀ w', Below w.heap.size w w' → Calls Tryz.prog 43 #[vb] w' fun e w2 => e = .returned .nilIface ∧ Below w.heap.size w w2 := fun w' h =>
    (check_any vb qb J w' (hb.below h) hqb (by have := Nat.mul_le_mul_right (J + 1) b2; omega)).mono (by rintro e w2 ⟨rfl, h2⟩; exact ⟨by rw [cb]; rfl, below_step h h2⟩)
  have GA := hide HCA
  have GB := hide HCB
  have HA := hide ha
  have HB := hide hb
  obtain ⟨x, cx, rfl, x1, x2, hx3⟩ := ha
  obtain ⟨y, cy, rfl, y1, y2, hy3⟩ := hb
  have hta := tlen_pos qa a1
  have htb := tlen_pos qb b1
  obtain ⟨bA, oA, rfl, hAlt, hAcs⟩ := hx3 a1
  obtain ⟨bB, oB, rfl, hBlt, hBcs⟩ := hy3 b1
  have HAC := hide hAcs
  have HBC := hide hBcs
  clear hx3 hy3 hAcs hBcs
  have TA : ∀ w', Below w.heap.size w w' → Calls Tryz.prog 104 #[.slice (some ⟨bA, oA, none⟩) qa.length cx] w' fun e w2 => e = .returned (.slice (some ⟨bA, oA, none⟩) (tlen qa qa.length) cx) ∧ Below w.heap.size w w2 := fun w' h =>
    (trimmedL_any _ cx qa w' ((unhide HA).below h) a1).mono (by rintro e w2 ⟨rfl, h2⟩; exact ⟨rfl, below_step h h2⟩)
  have TB : ∀ w', Below w.heap.size w w' → Calls Tryz.prog 104 #[.slice (some ⟨bB, oB, none⟩) qb.length cy] w' fun e w2 => e = .returned (.slice (some ⟨bB, oB, none⟩) (tlen qb qb.length) cy) ∧ Below w.heap.size w w2 := fun w' h =>
    (trimmedL_any _ cy qb w' ((unhide HB).below h) b1).mono (by rintro e w2 ⟨rfl, h2⟩; exact ⟨rfl, below_step h h2⟩)
  have HTA := hide TA
  have HTB := hide TB
  have HQA := hide hqa
  have HQB := hide hqb
  have HR := hide (Below.refl w.heap.size w)
  clear HCA HCB TA TB hqa hqb a1 b1
  obtain ⟨m, hm⟩ : ∃ m, tlen qa qa.length = m := ⟨_, rfl⟩
  obtain ⟨n, hn⟩ : ∃ m, tlen qb qb.length = m := ⟨_, rfl⟩
  have la := tlen_le qa qa.length
  have lb := tlen_le qb qb.length
  rw [hm] at la hta hlim HTA
  rw [hn] at lb htb hlim HTB
  obtain ⟨K, hK⟩ : ∃ K, m + n - 1 = K := ⟨_, rfl⟩
  rw [hm, hn, hK]
  clear hm hn ca cb
  go_enter Tryz.func61, Tryz.ntmps61
  go_wp2_with fail
  refine (unhide GA _ (unhide HR)).mono ?_
  rintro e w1 ⟨rfl, hb1⟩
  go_wp2_with fail
  refine (unhide GB _ hb1).mono ?_
  rintro e w2 ⟨rfl, hb2⟩
  go_wp2_with fail
  refine (unhide HTA _ hb2).mono ?_
  rintro e w3 ⟨rfl, hb3⟩
  go_wp2_with fail
  refine (unhide HTB _ hb3).mono ?_
  rintro e w4 ⟨rfl, hb4⟩
  have hmn : decide ((102 : Int) < (m : Int) + (n : Int)) = false := decide_eq_false (by omega)
  have hKi : ((m : Int) + (n : Int) - 1).toNat = K := by omega
  have qmk := make_tri ((m : Int) + (n : Int) - 1) (by omega) (by omega) w4
  rw [hKi] at qmk
  have HS0 := hide (SumsAt.start w w4 K hb4)
  have hGl : w.heap.size ≤ w4.heap.size := hb4.size
  obtain ⟨W4, hW4⟩ : ∃ W, w4.alloc (.cells (tcells (List.replicate K zTri)).toArray 27) = W := ⟨_, rfl⟩
  obtain ⟨G, hG⟩ : ∃ G, w4.heap.size = G := ⟨_, rfl⟩
  rw [hW4, hG] at qmk HS0
  have hKm : K ≤ 201 := by omega
  clear hb1 hb2 hb3 hb4 hW4 hG hKi GA GB HTA HTB HR hGl
  go_wp2_with fail
  go_loopw [43] (fun vi wr => ∃ (i : Nat) (us : List Tri), vi = .int .i64 i ∧ i ≤ m ∧ SumsAt w wr G us (conv qa qb n K i) ∧ us.length = K ∧ ∀ k, k < K → RS (conv qa qb n K i)[k]! ((i * n) * (2 * J + 1) + 1)) (fun vi _ => m - (intOf vi).toNat)
  case atStart => exact ⟨0, List.replicate K zTri, rfl, Nat.zero_le _, unhide HS0, List.length_replicate, fun k hk => by
    have e : (conv qa qb n K 0)[k]! = 0 := by show (List.replicate K (0 : Rat))[k]! = 0; simp [hk]
    rw [e]; exact RS.zero.mono (by omega)⟩
  case round =>
    obtain ⟨i, us, rfl, hi, T, hus, hrs⟩ := hrel
    clear HS0 qmk
    by_cases hlt : i < m
    · obtain ⟨sA, p1, p2, i1, j1, i2, j2, k0, k1, k2, r⟩ := unhide HAC i (by omega)
      obtain ⟨tx, rfl, rfl, rfl, rfl, rfl, rfl, rfl⟩ : ∃ t : Tri, sA = t.s ∧ p1 = t.a1 ∧ p2 = t.a2 ∧ i1 = t.n1 ∧ j1 = t.c1 ∧ i2 = t.n2 ∧ j2 = t.c2 := ⟨⟨sA, p1, p2, i1, j1, i2, j2⟩, rfl, rfl, rfl, rfl, rfl, rfl, rfl⟩
      rw [← T.bl.cell (p := ⟨bA, oA + i * 3, none⟩) hAlt] at k0
      rw [← T.bl.cell (p := ⟨bA, oA + i * 3 + 1, none⟩) hAlt] at k1
      rw [← T.bl.cell (p := ⟨bA, oA + i * 3 + 2, none⟩) hAlt] at k2
      have hGr := (Array.getElem?_eq_some_iff.1 T.row).1
      have IN0 : InAt w (wr.alloc (.cells #[.bool tx.s, .slice tx.a1 tx.n1 tx.c1, .slice tx.a2 tx.n2 tx.c2] 27)) G wr.heap.size us (conv qa qb n K i) tx qa[i]! :=
        ⟨T.keep (alloc_below wr _), heap_alloc_new wr _, (r.below T.bl).below (alloc_below wr _), by omega⟩
      obtain ⟨gx, hgx⟩ : ∃ g, wr.heap.size = g := ⟨_, rfl⟩
      obtain ⟨W5, hW5⟩ : ∃ W, wr.alloc (.cells #[.bool tx.s, .slice tx.a1 tx.n1 tx.c1, .slice tx.a2 tx.n2 tx.c2] 27) = W := ⟨_, rfl⟩
      rw [hgx, hW5] at IN0
      have HGX := hide hgx
      have HW5 := hide hW5
      have HIN0 := hide IN0
      have HRS := hide hrs
      have hi0 : (0 : Int) ≤ (i : Int) := by omega
      have hi1 : (i : Int) < (m : Int) := by omega
      have hic : i < m := hlt
      clear T r hgx hW5 IN0 hrs hGr
      go_wp2_with fail
      rw [unhide HW5, unhide HGX]
      clear k0 k1 k2
      go_loopw [50] (fun vi wr => ∃ (j : Nat) (us : List Tri), vi = .int .i64 j ∧ j ≤ n ∧ InAt w wr G gx us (rowAdd qb qa[i]! i j (conv qa qb n K i)) tx qa[i]! ∧ us.length = K ∧ ∀ k, k < K → RS (rowAdd qb qa[i]! i j (conv qa qb n K i))[k]! ((i * n + j) * (2 * J + 1) + 1)) (fun vi _ => n - (intOf vi).toNat)
      case atStart => exact ⟨0, us, rfl, Nat.zero_le _, unhide HIN0, hus, unhide HRS⟩
      case round =>
        obtain ⟨j, us', rfl, hj, T, hus', hrs'⟩ := hrel
        clear HIN0 HRS hus HW5 HGX
        by_cases hjn : j < n
        · obtain ⟨sB, p1, p2, i1, j1, i2, j2, k0, k1, k2, r⟩ := unhide HBC j (by omega)
          obtain ⟨ty, rfl, rfl, rfl, rfl, rfl, rfl, rfl⟩ : ∃ t : Tri, sB = t.s ∧ p1 = t.a1 ∧ p2 = t.a2 ∧ i1 = t.n1 ∧ j1 = t.c1 ∧ i2 = t.n2 ∧ j2 = t.c2 := ⟨⟨sB, p1, p2, i1, j1, i2, j2⟩, rfl, rfl, rfl, rfl, rfl, rfl, rfl⟩
          rw [← T.sums.bl.cell (p := ⟨bB, oB + j * 3, none⟩) hBlt] at k0
          rw [← T.sums.bl.cell (p := ⟨bB, oB + j * 3 + 1, none⟩) hBlt] at k1
          rw [← T.sums.bl.cell (p := ⟨bB, oB + j * 3 + 2, none⟩) hBlt] at k2
          have T1 := T.keep (alloc_below wr (.cells #[.bool ty.s, .slice ty.a1 ty.n1 ty.c1, .slice ty.a2 ty.n2 ty.c2] 27))
          have ry := (r.below T.sums.bl).below (alloc_below wr (.cells #[.bool ty.s, .slice ty.a1 ty.n1 ty.c1, .slice ty.a2 ty.n2 ty.c2] 27))
          have by1 : (wr.alloc (.cells #[.bool ty.s, .slice ty.a1 ty.n1 ty.c1, .slice ty.a2 ty.n2 ty.c2] 27)).heap[wr.heap.size]? = some (.cells #[.bool ty.s, .slice ty.a1 ty.n1 ty.c1, .slice ty.a2 ty.n2 ty.c2] 27) := heap_alloc_new wr _
          obtain ⟨gy, hgy⟩ : ∃ g, wr.heap.size = g := ⟨_, rfl⟩
          obtain ⟨W6, hW6⟩ : ∃ W, wr.alloc (.cells #[.bool ty.s, .slice ty.a1 ty.n1 ty.c1, .slice ty.a2 ty.n2 ty.c2] 27) = W := ⟨_, rfl⟩
          rw [hW6] at T1 ry by1
          rw [hgy] at by1
          have hij : i + j < us'.length := by omega
          obtain ⟨⟨g0, g1, g2⟩, f0, f1, f2⟩ := T1.sums.cells (i + j) hij
          have rk := T1.sums.rat (i + j) hij
          obtain ⟨tk, htk⟩ : ∃ t, us'[i + j]! = t := ⟨_, rfl⟩
          rw [htk] at g0 g1 g2 rk
          obtain ⟨l, hl⟩ : ∃ l, rowAdd qb qa[i]! i j (conv qa qb n K i) = l := ⟨_, rfl⟩
          rw [hl] at T1 hrs' rk
          have ⟨x0, x1', x2', _, _, _⟩ := box_cell T1.bx
          have ⟨y0, y1', y2', _, _, _⟩ := box_cell by1
          have rsm := RS.mul (unhide HQA i (by omega)) (unhide HQB j (by omega))
          have hst : i * n + j + 1 ≤ 10201 := by
            have h1 : i * n + j + 1 ≤ (i + 1) * n := by rw [Nat.succ_mul]; omega
            have h2 : (i + 1) * n ≤ 101 * 101 := Nat.mul_le_mul (by omega) (by omega)
            omega
          have hst2 : (i * n + j + 1) * (2 * J + 1) ≤ 10201 * (2 * J + 1) := Nat.mul_le_mul_right _ hst
          have hst3 : (i * n + j + 1) * (2 * J + 1) = (i * n + j) * (2 * J + 1) + (2 * J + 1) := Nat.succ_mul _ _
          have HML := hide (mulR_any _ _ qa[i]! qb[j]! W6.drew (T1.rx.below (Below.refl _ _).drew) (ry.below (Below.refl _ _).drew) J (unhide HQA i (by omega)) (unhide HQB j (by omega)) (by omega))
          have HRK := hide rk
          have rsk := hrs' (i + j) (by omega)
          have rsa : RS (l[i + j]! + qa[i]! * qb[j]!) ((i * n + j + 1) * (2 * J + 1) + 1) := (rsk.add rsm).mono (by omega)
          have HAD := hide (fun (w' : World) (v1 : Value) (h1 : RatIs w' tk.val l[i + j]!) (h2 : RatIs w' v1 (qa[i]! * qb[j]!)) => addR_any _ _ _ _ w' h1 h2 (10201 * (2 * J + 1) + 1 + 2 * J) (rsk.mono (by omega)) (rsm.mono (by omega)) (by omega))
          have NEWRS := hide (set_RS (k0 := i + j) hrs' (by rw [← T1.sums.len]; exact hus') rsa (by omega))
          have HTK := hide htk
          have HIJ := hide hij
          have hgyl := (Array.getElem?_eq_some_iff.1 by1).1
          have HEL : Hid (rowAdd qb qa[i]! i (j + 1) (conv qa qb n K i) = l.set (i + j) (l[i + j]! + qa[i]! * qb[j]!)) := by show _ = _; rw [← hl]; rfl
          have HT1 := hide T1
          have HHL := hide hl
          have HHGY := hide hgy
          have HHW6 := hide hW6
          have HBY := hide by1
          have hj0 : (0 : Int) ≤ (j : Int) := by omega
          have hj1 : (j : Int) < (n : Int) := by omega
          have hs0 : (0 : Int) ≤ (i : Int) + (j : Int) := by omega
          have hs1 : (i : Int) + (j : Int) < (K : Int) := by omega
          have hs2 : ((i : Int) + (j : Int)).toNat = i + j := by omega
          have hs3 : i + j < K := by omega
          have hwr : IntKind.i64.wrap ((i : Int) + (j : Int)) = (i : Int) + (j : Int) := by first | go_num | (unfold IntKind.wrap; simp [IntKind.bits, IntKind.signed]; omega)
          simp only [Tri.val] at HML HAD
          clear T T1 r ry rk rsk rsa rsm hrs' hl hgy hW6 by1 hst hst2 hst3 htk hij
          go_wp2_with fail
          rw [unhide HHW6, unhide HHGY]
          refine wp_region_till (fun w' => w'.cell? ⟨G, (i + j) * 3, none⟩ = some (.bool tk.s) ∧ w'.cell? ⟨G, (i + j) * 3 + 1, none⟩ = some (.slice tk.a1 tk.n1 tk.c1) ∧ w'.cell? ⟨G, (i + j) * 3 + 2, none⟩ = some (.slice tk.a2 tk.n2 tk.c2) ∧ w'.cell? ⟨gx, 0, none⟩ = some (.bool tx.s) ∧ w'.cell? ⟨gx, 1, none⟩ = some (.slice tx.a1 tx.n1 tx.c1) ∧ w'.cell? ⟨gx, 2, none⟩ = some (.slice tx.a2 tx.n2 tx.c2) ∧ w'.cell? ⟨gy, 0, none⟩ = some (.bool ty.s) ∧ w'.cell? ⟨gy, 1, none⟩ = some (.slice ty.a1 ty.n1 ty.c1) ∧ w'.cell? ⟨gy, 2, none⟩ = some (.slice ty.a2 ty.n2 ty.c2)) 15 (by kernel_rfl) ?_
          have hC0 : (fun w' : World => w'.cell? ⟨G, (i + j) * 3, none⟩ = some (.bool tk.s) ∧ w'.cell? ⟨G, (i + j) * 3 + 1, none⟩ = some (.slice tk.a1 tk.n1 tk.c1) ∧ w'.cell? ⟨G, (i + j) * 3 + 2, none⟩ = some (.slice tk.a2 tk.n2 tk.c2) ∧ w'.cell? ⟨gx, 0, none⟩ = some (.bool tx.s) ∧ w'.cell? ⟨gx, 1, none⟩ = some (.slice tx.a1 tx.n1 tx.c1) ∧ w'.cell? ⟨gx, 2, none⟩ = some (.slice tx.a2 tx.n2 tx.c2) ∧ w'.cell? ⟨gy, 0, none⟩ = some (.bool ty.s) ∧ w'.cell? ⟨gy, 1, none⟩ = some (.slice ty.a1 ty.n1 ty.c1) ∧ w'.cell? ⟨gy, 2, none⟩ = some (.slice ty.a2 ty.n2 ty.c2)) W6.drew := ⟨g0, g1, g2, x0, x1', x2', y0, y1', y2'⟩
          refine wpTill_pure (i := 0) (v := ?_) rfl (by kernel_rfl) (by kernel_rfl) (by kernel_rfl) (by kernel_rfl) (fun _ _ _ h => h) (Or.inl ⟨by rfl, ?_⟩) (fun _ => hC0) ?_
          rotate_left
          · intro w hSw; clear hSw; go_simp; (try with_reducible rfl)
          (try simp only [List.getElem_toArray, List.getElem_cons_succ, List.getElem_cons_zero])
          (try simp only [Act.put, List.setIfInBounds_toArray, List.set_cons_zero, List.set_cons_succ])
          refine wpTill_pure (i := 1) (v := ?_) rfl (by kernel_rfl) (by kernel_rfl) (by kernel_rfl) (by kernel_rfl) (fun _ _ _ h => h) (Or.inl ⟨by rfl, ?_⟩) (fun _ => hC0) ?_
          rotate_left
          · intro w hSw; clear hSw; go_simp; (try with_reducible rfl)
          (try simp only [List.getElem_toArray, List.getElem_cons_succ, List.getElem_cons_zero])
          (try simp only [Act.put, List.setIfInBounds_toArray, List.set_cons_zero, List.set_cons_succ])
          refine wpTill_pure (i := 2) (v := ?_) rfl (by kernel_rfl) (by kernel_rfl) (by kernel_rfl) (by kernel_rfl) (fun _ _ _ h => h) (Or.inl ⟨by rfl, ?_⟩) (fun _ => hC0) ?_
          rotate_left
          · intro w hSw; clear hSw; go_simp; (try with_reducible rfl)
          (try simp only [List.getElem_toArray, List.getElem_cons_succ, List.getElem_cons_zero])
          (try simp only [Act.put, List.setIfInBounds_toArray, List.set_cons_zero, List.set_cons_succ])
          refine wpTill_pure (i := 3) (v := ?_) rfl (by kernel_rfl) (by kernel_rfl) (by kernel_rfl) (by kernel_rfl) (fun _ _ _ h => h) (Or.inl ⟨by rfl, ?_⟩) (fun _ => hC0) ?_
          rotate_left
          · intro w hSw; clear hSw; go_simp; (try with_reducible rfl)
          (try simp only [List.getElem_toArray, List.getElem_cons_succ, List.getElem_cons_zero])
          (try simp only [Act.put, List.setIfInBounds_toArray, List.set_cons_zero, List.set_cons_succ])
          refine wpTill_pure (i := 4) (v := ?_) rfl (by kernel_rfl) (by kernel_rfl) (by kernel_rfl) (by kernel_rfl) (fun _ _ _ h => h) (Or.inl ⟨by rfl, ?_⟩) (fun _ => hC0) ?_
          rotate_left
          · intro w hSw; clear hSw; go_simp; (try with_reducible rfl)
          (try simp only [List.getElem_toArray, List.getElem_cons_succ, List.getElem_cons_zero])
          (try simp only [Act.put, List.setIfInBounds_toArray, List.set_cons_zero, List.set_cons_succ])
          refine wpTill_pure (i := 5) (v := ?_) rfl (by kernel_rfl) (by kernel_rfl) (by kernel_rfl) (by kernel_rfl) (fun _ _ _ h => h) (Or.inl ⟨by rfl, ?_⟩) (fun _ => hC0) ?_
          rotate_left
          · intro w hSw; clear hSw; go_simp; (try with_reducible rfl)
          (try simp only [List.getElem_toArray, List.getElem_cons_succ, List.getElem_cons_zero])
          (try simp only [Act.put, List.setIfInBounds_toArray, List.set_cons_zero, List.set_cons_succ])
          refine wpTill_pure (i := 6) (v := ?_) rfl (by kernel_rfl) (by kernel_rfl) (by kernel_rfl) (by kernel_rfl) (fun _ _ _ h => h) (Or.inl ⟨by rfl, ?_⟩) (fun _ => hC0) ?_
          rotate_left
          · intro w hSw; clear hSw; go_simp; (try with_reducible rfl)
          (try simp only [List.getElem_toArray, List.getElem_cons_succ, List.getElem_cons_zero])
          (try simp only [Act.put, List.setIfInBounds_toArray, List.set_cons_zero, List.set_cons_succ])
          refine wpTill_pure (i := 7) (v := ?_) rfl (by kernel_rfl) (by kernel_rfl) (by kernel_rfl) (by kernel_rfl) (fun _ _ _ h => h) (Or.inl ⟨by rfl, ?_⟩) (fun _ => hC0) ?_
          rotate_left
          · intro w hSw; clear hSw; go_simp; (try with_reducible rfl)
          (try simp only [List.getElem_toArray, List.getElem_cons_succ, List.getElem_cons_zero])
          (try simp only [Act.put, List.setIfInBounds_toArray, List.set_cons_zero, List.set_cons_succ])
          refine wpTill_pure (i := 8) (v := ?_) rfl (by kernel_rfl) (by kernel_rfl) (by kernel_rfl) (by kernel_rfl) (fun _ _ _ h => h) (Or.inl ⟨by rfl, ?_⟩) (fun _ => hC0) ?_
          rotate_left
          · intro w hSw; clear hSw; go_simp; (try with_reducible rfl)
          (try simp only [List.getElem_toArray, List.getElem_cons_succ, List.getElem_cons_zero])
          (try simp only [Act.put, List.setIfInBounds_toArray, List.set_cons_zero, List.set_cons_succ])
          refine wpTill_take (i := 9) (v := ?_) rfl (by kernel_rfl) (by kernel_rfl) (by kernel_rfl) (by kernel_rfl) (by kernel_rfl) (by kernel_rfl) (fun _ _ _ h => h) (Or.inl ⟨by rfl, ?_⟩) hC0 ?_
          rotate_left
          · intro w hSw; (try dsimp only at hSw); obtain ⟨z0, z1, z2, z3, z4, z5, z6, z7, z8⟩ := hSw; go_simp; (try with_reducible rfl)
          (try simp only [List.getElem_toArray, List.getElem_cons_succ, List.getElem_cons_zero])
          (try simp only [Act.put, List.setIfInBounds_toArray, List.set_cons_zero, List.set_cons_succ])
          refine wpTill_take (i := 10) (v := ?_) rfl (by kernel_rfl) (by kernel_rfl) (by kernel_rfl) (by kernel_rfl) (by kernel_rfl) (by kernel_rfl) (fun _ _ _ h => h) (Or.inl ⟨by rfl, ?_⟩) hC0 ?_
          rotate_left
          · intro w hSw; (try dsimp only at hSw); obtain ⟨z0, z1, z2, z3, z4, z5, z6, z7, z8⟩ := hSw; go_simp; (try with_reducible rfl)
          (try simp only [List.getElem_toArray, List.getElem_cons_succ, List.getElem_cons_zero])
          (try simp only [Act.put, List.setIfInBounds_toArray, List.set_cons_zero, List.set_cons_succ])
          refine wpTill_take (i := 11) (v := ?_) rfl (by kernel_rfl) (by kernel_rfl) (by kernel_rfl) (by kernel_rfl) (by kernel_rfl) (by kernel_rfl) (fun _ _ _ h => h) (Or.inl ⟨by rfl, ?_⟩) hC0 ?_
          rotate_left
          · intro w hSw; (try dsimp only at hSw); obtain ⟨z0, z1, z2, z3, z4, z5, z6, z7, z8⟩ := hSw; go_simp; (try with_reducible rfl)
          (try simp only [List.getElem_toArray, List.getElem_cons_succ, List.getElem_cons_zero])
          (try simp only [Act.put, List.setIfInBounds_toArray, List.set_cons_zero, List.set_cons_succ])
          refine wpTill_one (k := 12) (by kernel_rfl) rfl (fun K hK => ?_)
          (try simp only [List.getElem_toArray, List.getElem_cons_succ, List.getElem_cons_zero])
          go_simp
          refine (unhide HML).mono ?_
          rintro e w7 ⟨v7, rfl, hv7, hb7⟩
          have T7 := (unhide HT1).keep (below_step (Below.refl _ _).drew hb7)
          have by7 : w7.heap[gy]? = some (.cells #[.bool ty.s, .slice ty.a1 ty.n1 ty.c1, .slice ty.a2 ty.n2 ty.c2] 27) := by rw [hb7.block gy hgyl]; exact unhide HBY
          obtain ⟨⟨g0', g1', g2'⟩, f0', f1', f2'⟩ := T7.sums.cells (i + j) (unhide HIJ)
          rw [unhide HTK] at g0' g1' g2'
          have rk7 := T7.sums.rat (i + j) (unhide HIJ)
          rw [unhide HTK] at rk7
          have ⟨u0, u1, u2, _, _, _⟩ := box_cell T7.bx
          have ⟨v0, v1, v2, _, _, _⟩ := box_cell by7
          have hC7 : (fun w' : World => w'.cell? ⟨G, (i + j) * 3, none⟩ = some (.bool tk.s) ∧ w'.cell? ⟨G, (i + j) * 3 + 1, none⟩ = some (.slice tk.a1 tk.n1 tk.c1) ∧ w'.cell? ⟨G, (i + j) * 3 + 2, none⟩ = some (.slice tk.a2 tk.n2 tk.c2) ∧ w'.cell? ⟨gx, 0, none⟩ = some (.bool tx.s) ∧ w'.cell? ⟨gx, 1, none⟩ = some (.slice tx.a1 tx.n1 tx.c1) ∧ w'.cell? ⟨gx, 2, none⟩ = some (.slice tx.a2 tx.n2 tx.c2) ∧ w'.cell? ⟨gy, 0, none⟩ = some (.bool ty.s) ∧ w'.cell? ⟨gy, 1, none⟩ = some (.slice ty.a1 ty.n1 ty.c1) ∧ w'.cell? ⟨gy, 2, none⟩ = some (.slice ty.a2 ty.n2 ty.c2)) w7 := ⟨g0', g1', g2', u0, u1, u2, v0, v1, v2⟩
          obtain ⟨t7, rfl, hr7⟩ := tri_of hv7
          have HAD7 := hide (unhide HAD w7 _ rk7 hr7)
          have HT7 := hide T7
          have hgy7 := (Array.getElem?_eq_some_iff.1 by7).1
          have HBY7 := hide by7
          simp only [Tri.val] at HAD7 ⊢
          clear T7 hv7 hr7 rk7 by7 HML g0 g1 g2 f0 f1 f2 x0 x1' x2' y0 y1' y2' HAD
          refine hK.out _ _ (fun _ => hC7) ?_
          clear hK K
          (try simp only [Act.put, List.setIfInBounds_toArray, List.set_cons_zero, List.set_cons_succ])
          refine wpTill_one (k := 13) (by kernel_rfl) rfl (fun K hK => ?_)
          (try simp only [List.getElem_toArray, List.getElem_cons_succ, List.getElem_cons_zero])
          go_simp
          refine (unhide HAD7).mono ?_
          rintro e w8 ⟨v8, rfl, hv8, hb8⟩
          have T8 := (unhide HT7).keep hb8
          have by8 : w8.heap[gy]? = some (.cells #[.bool ty.s, .slice ty.a1 ty.n1 ty.c1, .slice ty.a2 ty.n2 ty.c2] 27) := by rw [hb8.block gy hgy7]; exact unhide HBY7
          obtain ⟨⟨o0, o1, o2⟩, q0, q1, q2⟩ := T8.sums.cells (i + j) (unhide HIJ)
          rw [unhide HTK] at o0 o1 o2
          have ⟨n0, n1, n2, _, _, _⟩ := box_cell T8.bx
          have ⟨l0, l1, l2, _, _, _⟩ := box_cell by8
          have hC8 : (fun w' : World => w'.cell? ⟨G, (i + j) * 3, none⟩ = some (.bool tk.s) ∧ w'.cell? ⟨G, (i + j) * 3 + 1, none⟩ = some (.slice tk.a1 tk.n1 tk.c1) ∧ w'.cell? ⟨G, (i + j) * 3 + 2, none⟩ = some (.slice tk.a2 tk.n2 tk.c2) ∧ w'.cell? ⟨gx, 0, none⟩ = some (.bool tx.s) ∧ w'.cell? ⟨gx, 1, none⟩ = some (.slice tx.a1 tx.n1 tx.c1) ∧ w'.cell? ⟨gx, 2, none⟩ = some (.slice tx.a2 tx.n2 tx.c2) ∧ w'.cell? ⟨gy, 0, none⟩ = some (.bool ty.s) ∧ w'.cell? ⟨gy, 1, none⟩ = some (.slice ty.a1 ty.n1 ty.c1) ∧ w'.cell? ⟨gy, 2, none⟩ = some (.slice ty.a2 ty.n2 ty.c2)) w8 := ⟨o0, o1, o2, n0, n1, n2, l0, l1, l2⟩
          obtain ⟨t8, rfl, hr8⟩ := tri_of hv8
          have FIN := hide (T8.set (i + j) (unhide HIJ) t8 _ hr8)
          simp only [Tri.val]
          clear T8 hv8 hr8 by8 HAD7 g0' g1' g2' f0' f1' f2' u0 u1 u2 v0 v1 v2 hC7 hC0
          refine hK.out _ _ (fun _ => hC8) ?_
          clear hK K
          (try simp only [Act.put, List.setIfInBounds_toArray, List.set_cons_zero, List.set_cons_succ])
          refine wpTill_one (k := 14) (by kernel_rfl) rfl (fun K hK => ?_)
          (try simp only [List.getElem_toArray, List.getElem_cons_succ, List.getElem_cons_zero])
          go_simp
          refine hK.out _ _ (fun _ => hC8) ?_
          clear hK K
          (try simp only [Act.put, List.setIfInBounds_toArray, List.set_cons_zero, List.set_cons_succ])
          refine wpTill_one (k := 15) (by kernel_rfl) rfl (fun K hK => ?_)
          (try simp only [List.getElem_toArray, List.getElem_cons_succ, List.getElem_cons_zero])
          go_simp
          refine hK.out _ _ (fun h => absurd (h.symm.trans (by kernel_rfl)) Bool.false_ne_true) ?_
          clear hK K
          (try simp only [Act.put, List.setIfInBounds_toArray, List.set_cons_zero, List.set_cons_succ])
          refine wpTill_done (by kernel_rfl) ?_ _
          clear hC8 o0 o1 o2 q0 q1 q2 n0 n1 n2 l0 l1 l2 HT1 HT7 hb7 hb8 HBY HBY7
          go_wp2_with fail
          exact ⟨⟨j + 1, us'.set (i + j) t8, by go_num, hjn, by rw [unhide HEL]; exact unhide FIN, by rw [List.length_set]; exact hus', by rw [unhide HEL]; exact unhide NEWRS⟩, by simp [intOf]; omega⟩
        · obtain rfl : j = n := by omega
          have HTS := hide T.sums
          have HRS2 := hide hrs'
          clear T hrs' hjn
          go_wp2_with fail
          exact ⟨⟨i + 1, us', by go_num, hlt, unhide HTS, hus', by rw [Nat.succ_mul]; exact unhide HRS2⟩, by simp [intOf]; omega⟩
    · obtain rfl : i = m := by omega
      have L := T.law (by omega)
      rw [hus] at L
      have HL := hide L
      have HB4 := hide T.bl
      clear T hrs L HAC HBC HQA HQB
      go_wp2
      (try simp only [Exit.inBlock, Exit.then])
      go_ret2
      exact ⟨_, rfl, unhide HL, unhide HB4⟩
end Go.Proofs.YtnmmfcoclpapdaaGreatDoor
/- The checker's coins. -/
namespace Go.Proofs.YtnmmfcoclpapdaaGreatDoor
open Go.RowKit Go.Sort Go.Shelf

def h2 : Rat := Rat.divInt 1 2
theorem h2_num : h2.num = 1 := by rfl
theorem h2_den : h2.den = 2 := by rfl
theorem h2_sum0 : h2 + h2 = Rat.divInt 4 4 := Rat.divInt_add_divInt 1 1 (by decide) (by decide)
theorem h2_sum : h2 + h2 = 1 := by rw [h2_sum0]; exact Rat.ext rfl rfl
theorem h2_mul : h2 * h2 = Rat.divInt 1 4 := Rat.divInt_mul_divInt 1 1
theorem h4_sum : Rat.divInt 1 4 + Rat.divInt 1 4 = h2 := (Rat.divInt_add_divInt 1 1 (by decide) (by decide)).trans (Rat.ext rfl rfl)
theorem h2_conv : (conv [h2, h2] [h2, h2] 2 3 2)[1]! = h2 := by
  show (0 : Rat) + h2 * h2 + h2 * h2 = h2
  rw [h2_mul, Rat.zero_add]; exact h4_sum
theorem conv_len : (conv [h2, h2] [h2, h2] 2 3 2).length = 3 := by rfl
theorem h2_tlen : tlen [h2, h2] 2 = 2 := by rfl
theorem h2_RS : RS h2 1 := ⟨by rw [h2_num]; decide, by rw [h2_den]; decide⟩
theorem h2_all : ∀ j, j < [h2, h2].length → ([h2, h2] : List Rat)[j]! = h2
  | 0, _ => rfl
  | 1, _ => rfl
theorem h2_chk : chk [h2, h2] = 0 := by
  unfold chk
  rw [if_neg (by decide), if_neg, if_pos]
  · show (0 : Rat) + h2 + h2 = 1
    rw [Rat.zero_add]; exact h2_sum
  · rintro ⟨j, hj, hn⟩
    rw [h2_all j hj, h2_num] at hn
    exact absurd hn (by decide)
theorem dec1 (k : Nat) (h : k < 10) : Lib.decDigits k = [UInt8.ofNat (48 + k)] := by
  unfold Lib.decDigits
  rw [dif_pos h]
theorem h2_text : qtext h2 = [49, 47, 50] := by
  simp [qtext, upperText, h2_num, h2_den, dec1]

theorem two_sums {w wr : World} {g : Nat} {t : Tri} (hrow : wr.heap[g]? = some (.cells #[.bool t.s, .slice t.a1 t.n1 t.c1, .slice t.a2 t.n2 t.c2, .bool t.s, .slice t.a1 t.n1 t.c1, .slice t.a2 t.n2 t.c2] 27)) (hr : RatIs wr t.val h2) (bl : Below w.heap.size w wr) (gl : w.heap.size ≤ g) :
    LawIs wr (.slice (some ⟨g, 0, none⟩) 2 2) [h2, h2] :=
  SumsAt.law (w := w) (us := [t, t]) ⟨hrow, rfl, fun j hj => match j, hj with | 0, _ => hr | 1, _ => hr, bl, gl⟩ (by show 2 ≤ 9223372036854775807; omega)

end Go.Proofs.YtnmmfcoclpapdaaGreatDoor
