/- Lawler, the walk. -/
import Derived.Test.YtmpigipeajdgcaaDoorL33
namespace Go.Proofs.YtmpigipeajdgcaaDoor
open Go.RowKit Go.Sort

/-- A block of one cell. -/
def Box (W : World) (p : Nat) (T : TypeId) (v : Value) : Prop := W.heap[p]? = some (.cells #[v] T)
theorem Box.lt {W : World} {p : Nat} {T : TypeId} {v : Value} (h : Box W p T v) : p < W.heap.size := (Array.getElem?_eq_some_iff.1 h).1
theorem Box.cell {W : World} {p : Nat} {T : TypeId} {v : Value} (h : Box W p T v) : W.cell? ⟨p, 0, none⟩ = some v := by
  unfold Box at h
  simp [World.cell?, h]
theorem Box.free {W : World} {p : Nat} {T : TypeId} {v : Value} (h : Box W p T v) : W.frozen? ⟨p, 0, none⟩ = false := by
  unfold Box at h; simp [World.frozen?, h]
theorem Box.keep {W W' : World} {p : Nat} {T : TypeId} {v : Value} (h : Box W p T v) (hb : Below W.heap.size W W') : Box W' p T v := by
  unfold Box; rw [hb.block p h.lt]; exact h
theorem Box.set {W : World} {p : Nat} {T : TypeId} {v : Value} (h : Box W p T v) (u : Value) : Box (W.setCell ⟨p, 0, none⟩ u) p T u := by
  unfold Box at h ⊢
  rw [setCell_eq]
  simp only [mapBlock, Array.getElem?_modify, h, if_true, Option.map_some, onCells]
  simp
theorem Box.apart {W : World} {p g j : Nat} {T : TypeId} {v u : Value} (h : Box W p T v) (hne : p ≠ g) : Box (W.setCell ⟨g, j, none⟩ u) p T v := by
  unfold Box; rw [Below.heap_setCell _ _ _ _ hne]; exact h
theorem Box.new (W : World) (T : TypeId) (v : Value) : Box (W.alloc (.cells #[v] T)) W.heap.size T v := heap_alloc_new W _

def lw (n : Nat) (f : Nat → T3) (R : Nat → Nat → Int) (ln : Nat → Nat) : Lin.Lw := ⟨n, R, ln, pT f, wT f, dT f⟩
def lawcode (n m : Nat) (f : Nat → T3) (R : Nat → Nat → Int) (ln : Nat → Nat) : Int :=
  if tcode n f ≠ 0 then tcode n f else if lcode n m R ln ≠ 0 then lcode n m R ln else if ((lw n f R ln).lst n).isNone then 12 else 0
/-- The row's end. -/
def rowS (n k : Nat) (suf : List Nat) : Nat → Int := fun i => if n - k ≤ i then ((suf.getD (i - (n - k)) 0 : Nat) : Int) else 0
theorem rowS_succ {n k x : Nat} {suf : List Nat} (hk : k < n) (i : Nat) : updI (rowS n k suf) (n - 1 - k) (x : Int) i = rowS n (k + 1) (x :: suf) i := by
  unfold updI rowS
  by_cases h1 : i = n - 1 - k
  · rw [if_pos h1, if_pos (by omega), show i - (n - (k + 1)) = 0 by omega]; rfl
  · rw [if_neg h1]
    by_cases h2 : n - k ≤ i
    · rw [if_pos h2, if_pos (by omega), show i - (n - (k + 1)) = (i - (n - k)) + 1 by omega]; rfl
    · rw [if_neg h2, if_neg (by omega)]
def LPost (w : World) (n m : Nat) (f : Nat → T3) (R : Nat → Nat → Int) (ln : Nat → Nat) (e : Ending) (w' : World) : Prop :=
  Below w.heap.size w w' ∧ ((lawcode n m f R ln ≠ 0 ∧ e = .returned (.tuple #[.slice none 0 0, .int .i64 0, .iface 24 (.int .i64 (lawcode n m f R ln))])) ∨ (lawcode n m f R ln = 0 ∧ ∃ st, (lw n f R ln).lst n = some st ∧ ∃ G, w.heap.size ≤ G ∧ e = .returned (.tuple #[.slice (some ⟨G, 0, none⟩) n n, .int .i64 st.gr, .nilIface]) ∧ OwnI w' G n (rowS n n st.suf)))

/-- The blocks, in the order in which they were made. -/
structure Ord (s pl G1 pb pe G2 pp G3 : Nat) : Prop where
  a : s ≤ pl
  b : pl < G1
  c : G1 < pb
  d : pb < pe
  e : pe < G2
  f : G2 < pp
  g : pp < G3
structure LA (w W : World) (pl G1 pb pe : Nat) (a : Option Addr) (n c : Nat) (E : Int) (B : Nat → Int) : Prop where
  bl : Below w.heap.size w W
  xl : Box W pl 22 (.slice a n c)
  xb : Box W pb 23 (.slice (some ⟨G1, 0, none⟩) n n)
  xe : Box W pe 3 (.int .i64 E)
  o1 : OwnI W G1 n B
theorem LA.keep {w W W' : World} {pl G1 pb pe : Nat} {a : Option Addr} {n c : Nat} {E : Int} {B : Nat → Int} (h : LA w W pl G1 pb pe a n c E B) (hb : Below W.heap.size W W') : LA w W' pl G1 pb pe a n c E B :=
  ⟨below_step h.bl hb, h.xl.keep hb, h.xb.keep hb, h.xe.keep hb, h.o1.keep hb⟩
theorem LA.setE {w W : World} {pl G1 pb pe : Nat} {a : Option Addr} {n c : Nat} {E : Int} {B : Nat → Int} (h : LA w W pl G1 pb pe a n c E B) (h1 : w.heap.size ≤ pe) (h2 : pl < pe) (h3 : G1 < pe) (h4 : pb < pe) (E' : Int) : LA w (W.setCell ⟨pe, 0, none⟩ (.int .i64 E')) pl G1 pb pe a n c E' B :=
  ⟨h.bl.setCell (p := ⟨pe, 0, none⟩) h1 _, h.xl.apart (by omega), h.xb.apart (by omega), h.xe.set _, h.o1.apart (by omega)⟩
structure LI (w W : World) (pl G1 pb pe G2 pp G3 : Nat) (a : Option Addr) (n c : Nat) (E : Int) (B : Nat → Int) (P : Nat → Bool) (r : Nat → Int) : Prop where
  la : LA w W pl G1 pb pe a n c E B
  xp : Box W pp 62 (.slice (some ⟨G2, 0, none⟩) n n)
  o2 : OwnB W G2 n P
  o3 : OwnI W G3 n r
theorem LI.keep {w W W' : World} {pl G1 pb pe G2 pp G3 : Nat} {a : Option Addr} {n c : Nat} {E : Int} {B : Nat → Int} {P : Nat → Bool} {r : Nat → Int} (h : LI w W pl G1 pb pe G2 pp G3 a n c E B P r) (hb : Below W.heap.size W W') : LI w W' pl G1 pb pe G2 pp G3 a n c E B P r :=
  ⟨h.la.keep hb, h.xp.keep hb, h.o2.keep hb, h.o3.keep hb⟩
theorem LI.lb {w W : World} {pl G1 pb pe G2 pp G3 : Nat} {a : Option Addr} {n c : Nat} {E : Int} {B : Nat → Int} {P : Nat → Bool} {r : Nat → Int} (h : LI w W pl G1 pb pe G2 pp G3 a n c E B P r) {f : Nat → T3} (ht : TRow w a n c f) : LB W pl pe pp pb G1 G2 a n c f E P B :=
  ⟨h.la.xl.cell, h.la.xe.cell, h.xp.cell, h.la.xb.cell, h.la.o1, h.o2, ht.below h.la.bl⟩
theorem LI.setE {w W : World} {pl G1 pb pe G2 pp G3 : Nat} {a : Option Addr} {n c : Nat} {E : Int} {B : Nat → Int} {P : Nat → Bool} {r : Nat → Int} (h : LI w W pl G1 pb pe G2 pp G3 a n c E B P r) (q : Ord w.heap.size pl G1 pb pe G2 pp G3) (E' : Int) : LI w (W.setCell ⟨pe, 0, none⟩ (.int .i64 E')) pl G1 pb pe G2 pp G3 a n c E' B P r := by
  obtain ⟨q1, q2, q3, q4, q5, q6, q7⟩ := q
  exact ⟨h.la.setE (by omega) (by omega) (by omega) (by omega) E', h.xp.apart (by omega), h.o2.apart (by omega), h.o3.apart (by omega)⟩
theorem LI.setB {w W : World} {pl G1 pb pe G2 pp G3 : Nat} {a : Option Addr} {n c : Nat} {E : Int} {B : Nat → Int} {P : Nat → Bool} {r : Nat → Int} (h : LI w W pl G1 pb pe G2 pp G3 a n c E B P r) (q : Ord w.heap.size pl G1 pb pe G2 pp G3) (j : Nat) (v : Int) : LI w (W.setCell ⟨G1, j, none⟩ (.int .i64 v)) pl G1 pb pe G2 pp G3 a n c E (updI B j v) P r := by
  obtain ⟨q1, q2, q3, q4, q5, q6, q7⟩ := q
  exact ⟨⟨h.la.bl.setCell (p := ⟨G1, j, none⟩) (by show _ ≤ G1; omega) _, h.la.xl.apart (by omega), h.la.xb.apart (by omega), h.la.xe.apart (by omega), h.la.o1.set j v⟩, h.xp.apart (by omega), h.o2.apart (by omega), h.o3.apart (by omega)⟩
theorem LI.setP {w W : World} {pl G1 pb pe G2 pp G3 : Nat} {a : Option Addr} {n c : Nat} {E : Int} {B : Nat → Int} {P : Nat → Bool} {r : Nat → Int} (h : LI w W pl G1 pb pe G2 pp G3 a n c E B P r) (q : Ord w.heap.size pl G1 pb pe G2 pp G3) (j : Nat) (v : Bool) : LI w (W.setCell ⟨G2, j, none⟩ (.bool v)) pl G1 pb pe G2 pp G3 a n c E B (updB P j v) r := by
  obtain ⟨q1, q2, q3, q4, q5, q6, q7⟩ := q
  exact ⟨⟨h.la.bl.setCell (p := ⟨G2, j, none⟩) (by show _ ≤ G2; omega) _, h.la.xl.apart (by omega), h.la.xb.apart (by omega), h.la.xe.apart (by omega), h.la.o1.apart (by omega)⟩, h.xp.apart (by omega), h.o2.set j v, h.o3.apart (by omega)⟩
theorem LI.setR {w W : World} {pl G1 pb pe G2 pp G3 : Nat} {a : Option Addr} {n c : Nat} {E : Int} {B : Nat → Int} {P : Nat → Bool} {r : Nat → Int} (h : LI w W pl G1 pb pe G2 pp G3 a n c E B P r) (q : Ord w.heap.size pl G1 pb pe G2 pp G3) (j : Nat) (v : Int) : LI w (W.setCell ⟨G3, j, none⟩ (.int .i64 v)) pl G1 pb pe G2 pp G3 a n c E B P (updI r j v) := by
  obtain ⟨q1, q2, q3, q4, q5, q6, q7⟩ := q
  exact ⟨⟨h.la.bl.setCell (p := ⟨G3, j, none⟩) (by show _ ≤ G3; omega) _, h.la.xl.apart (by omega), h.la.xb.apart (by omega), h.la.xe.apart (by omega), h.la.o1.apart (by omega)⟩, h.xp.apart (by omega), h.o2.apart (by omega), h.o3.set j v⟩
theorem LI.congr {w W : World} {pl G1 pb pe G2 pp G3 : Nat} {a : Option Addr} {n c : Nat} {E : Int} {B B' : Nat → Int} {P P' : Nat → Bool} {r r' : Nat → Int} (h : LI w W pl G1 pb pe G2 pp G3 a n c E B P r) (h1 : ∀ j, j < n → B j = B' j) (h2 : ∀ j, j < n → P j = P' j) (h3 : ∀ j, j < n → r j = r' j) : LI w W pl G1 pb pe G2 pp G3 a n c E B' P' r' :=
  ⟨⟨h.la.bl, h.la.xl, h.la.xb, h.la.xe, h.la.o1.congr h1⟩, h.xp, h.o2.congr h2, h.o3.congr h3⟩
theorem lw_E_bd {n : Nat} {f : Nat → T3} (hT : GoodT n f) (P : Nat → Bool) : ∀ k, k ≤ n → 0 ≤ Lin.usum (pT f) P k ∧ Lin.usum (pT f) P k ≤ 60000000000 := fun k hk => by
  have h := Lin.usum_bd (g := pT f) (B := 1000000000) P k (fun i hi => hT.p i (by omega)) (by decide)
  have := hT.few
  omega
theorem lw_bh_bd {n : Nat} {f : Nat → T3} {R : Nat → Nat → Int} {ln : Nat → Nat} (hn : n ≤ 60) (hl : ∀ i, ln i ≤ 1048576) (P : Nat → Bool) (k : Nat) : 0 ≤ (lw n f R ln).bh P k ∧ (lw n f R ln).bh P k ≤ 100000000 := by
  have h := Lin.usum_bd (g := fun i => Lin.cnt (R i) k (ln i)) (B := 1048576) P n (fun i _ => by have := Lin.cnt_bd (R i) k (ln i); have := hl i; omega) (by decide)
  unfold Lin.Lw.bh lw
  simp only
  omega

set_option maxHeartbeats 8000000 in
set_option maxRecDepth 100000 in
set_option linter.unusedSimpArgs false in
theorem lawler_any (a : Option Addr) (n c : Nat) (f : Nat → T3) (va : Option Addr) (m vc : Nat) (H : Nat → Option Addr × Nat × Nat) (R : Nat → Nat → Int) (w : World) (ha : TRow w a n c f) (hr : RRow w va m vc H R) (hl : ∀ i, lnH H i ≤ 1048576) :
    Calls Tryd.prog 32 #[.slice a n c, .slice va m vc] w (LPost w n m f R (lnH H)) := by
  obtain ⟨w1, hw1⟩ : ∃ W, w.alloc (.cells #[.slice a n c] 22) = W := ⟨_, rfl⟩
  have b1 : Below w.heap.size w w1 := by rw [← hw1]; exact alloc_below _ _
  have sz1 : w1.heap.size = w.heap.size + 1 := by rw [← hw1, alloc_size]
  have xl1 : Box w1 w.heap.size 22 (.slice a n c) := by rw [← hw1]; exact Box.new _ _ _
  obtain ⟨pl, hpl⟩ : ∃ p, w.heap.size = p := ⟨_, rfl⟩
  rw [hpl] at xl1
  have HC := hide (check_any a n c f w1 (ha.below b1))
  have cl1 := xl1.cell
  have XL1 := hide xl1
  have HB1 := hide b1
  have HA := hide ha
  have HR := hide hr
  have HL := hide hl
  have q1 := hr.1
  have q2 := hr.2.1
  have q3 := ha.1
  have q4 := ha.2.1
  have HPL : Hid (w.heap.size = pl ∧ pl < w1.heap.size) := ⟨hpl, by rw [sz1, hpl]; exact Nat.lt_succ_self _⟩
  by_cases ht : tcode n f = 0
  case neg =>
    rw [errV_not ht] at HC
    have hv : lawcode n m f R (lnH H) = tcode n f := by unfold lawcode; rw [if_pos ht]
    obtain ⟨k, hk⟩ : ∃ k, tcode n f = k := ⟨_, rfl⟩
    rw [hk] at HC ht hv
    have HV := hide hv
    have HT := hide ht
    clear hk ht ha hr hl b1 sz1 hv xl1
    go_enter Tryd.func32, Tryd.ntmps32
    go_wp2_with fail
    refine (unhide HC).mono ?_
    rintro e w2 ⟨rfl, hb2⟩
    go_wp2
    go_ret3
    refine ⟨below_step (unhide HB1) hb2, Or.inl ?_⟩
    rw [unhide HV]
    exact ⟨unhide HT, rfl⟩
  rw [ht, errV_zero] at HC
  have hT := goodT_of ht
  have HGT := hide hT
  have HT := hide ht
  have hn60 := hT.few
  clear ht hT ha hr hl b1 sz1 xl1
  go_enter Tryd.func32, Tryd.ntmps32
  go_wp2_with fail
  refine (unhide HC).mono ?_
  rintro e w2 ⟨rfl, hb2⟩
  have xl2 := (unhide XL1).keep hb2
  have cl2 := xl2.cell
  have hb20 := below_step (unhide HB1) hb2
  have HF := hide (followers_any va m vc H R n w2 ((unhide HR).below hb20) (unhide HL) hn60)
  have XL2 := hide xl2
  have HB2 := hide hb20
  have HS2 : Hid (pl < w2.heap.size) := xl2.lt
  clear HC hw1 hpl cl1 hb2 xl2 hb20
  go_wp2_with fail
  refine (unhide HF).mono ?_
  rintro e w3 ⟨hb3, hp⟩
  rcases hp with ⟨h1, rfl⟩ | ⟨h1, G1, hG1, rfl, hO1⟩
  · have hv : lawcode n m f R (lnH H) = lcode n m R (lnH H) := by unfold lawcode; rw [if_neg (by rw [unhide HT]; decide), if_pos h1]
    obtain ⟨k, hk⟩ : ∃ k, lcode n m R (lnH H) = k := ⟨_, rfl⟩
    rw [hk] at h1 hv
    rw [hk]
    have HV := hide hv
    have H1 := hide h1
    have HB3 : Hid (∀ o, Below w.heap.size w (w3.alloc o)) := fun o => below_step (unhide HB2) (below_step hb3 (alloc_below _ o))
    clear hk h1 hv HF hb3 cl2
    go_wp2
    go_ret3
    refine ⟨unhide HB3 _, Or.inl ?_⟩
    rw [unhide HV]
    exact ⟨unhide H1, rfl⟩
  have hmn := (lcode_zero h1).1
  have HAH := hide (lcode_zero h1).2
  have H1 := hide h1
  obtain ⟨w4, hw4⟩ : ∃ W, w3.alloc (.cells #[.slice (some ⟨G1, 0, none⟩) n n] 23) = W := ⟨_, rfl⟩
  obtain ⟨wz, hw5⟩ : ∃ W, w4.alloc (.cells #[.int .i64 0] 3) = W := ⟨_, rfl⟩
  have b4 : Below w3.heap.size w3 w4 := by rw [← hw4]; exact alloc_below _ _
  have b5 : Below w4.heap.size w4 wz := by rw [← hw5]; exact alloc_below _ _
  have sz4 : w4.heap.size = w3.heap.size + 1 := by rw [← hw4, alloc_size]
  have xb4 : Box w4 w3.heap.size 23 (.slice (some ⟨G1, 0, none⟩) n n) := by rw [← hw4]; exact Box.new _ _ _
  have xe5 : Box wz w4.heap.size 3 (.int .i64 0) := by rw [← hw5]; exact Box.new _ _ _
  obtain ⟨pb, hpb⟩ : ∃ p, w3.heap.size = p := ⟨_, rfl⟩
  obtain ⟨pe, hpe⟩ : ∃ p, w4.heap.size = p := ⟨_, rfl⟩
  rw [hpb] at xb4
  rw [hpe] at xe5
  have LAz : LA w wz pl G1 pb pe a n c 0 (bhs R (lnH H) n) := ⟨below_step (unhide HB2) (below_step hb3 (below_step b4 b5)), ((unhide XL2).keep hb3).keep (below_step b4 b5), xb4.keep b5, xe5, hO1.keep (below_step b4 b5)⟩
  have HQ : Hid (w.heap.size ≤ pl ∧ pl < G1 ∧ G1 < pb ∧ pb < pe) := by
    have z1 := (unhide HPL).1
    have z2 := unhide HS2
    have z3 := hO1.lt
    exact ⟨by omega, by omega, by omega, by omega⟩
  have LA5 := LAz.setE (by have := unhide HQ; omega) (by have := unhide HQ; omega) (by have := unhide HQ; omega) (by have := unhide HQ; omega) 0
  have cez := LAz.xe.cell
  have cfz := LAz.xe.free
  obtain ⟨w5, hw6⟩ : ∃ W, wz.setCell ⟨pe, 0, none⟩ (.int .i64 0) = W := ⟨_, rfl⟩
  rw [hw6] at LA5
  have cl5 := LA5.xl.cell
  have HLA := hide LA5
  clear h1 HF hb3 cl2 b4 b5 sz4 xb4 xe5 hO1 LA5 LAz hG1
  subst hmn
  go_wp2_with fail
  clear hw4 hw5 hw6 hpb hpe cl5 cez cfz
  go_loopw [40] (fun vi wr => ∃ k : Nat, vi = .int .i64 (k : Int) ∧ k ≤ m ∧ LA w wr pl G1 pb pe a m c (Lin.usum (pT f) (fun _ => false) k) (bhs R (lnH H) m)) (fun vi _ => m - (intOf vi).toNat)
  case atStart => exact ⟨0, rfl, Nat.zero_le _, unhide HLA⟩
  case round =>
    obtain ⟨k, rfl, hk, hI⟩ := hrel
    by_cases hlt : k < m
    · obtain ⟨b, o, rfl, hbl, hc3⟩ := ((unhide HA).below hI.bl).2.2 (by omega)
      have ⟨k0, k1, k2⟩ := hc3 k hlt
      have hp := (unhide HGT).p k hlt
      have he := lw_E_bd (unhide HGT) (fun _ => false) k hk
      have hE : Lin.usum (pT f) (fun _ => false) (k + 1) = Lin.usum (pT f) (fun _ => false) k + (f k).1 := rfl
      obtain ⟨⟨x, y, z⟩, hf⟩ : ∃ t, f k = t := ⟨_, rfl⟩
      rw [hf] at k0 k1 k2 hp hE
      simp only at k0 k1 k2 hp hE
      obtain ⟨t, htt⟩ : ∃ t, Lin.usum (pT f) (fun _ => false) k = t := ⟨_, rfl⟩
      rw [htt] at hI he hE
      have ⟨p0, p1, p2⟩ := box3 (w := wr) (x := .int .i64 x) (y := .int .i64 y) (z := .int .i64 z) (T := 59) (Below.refl _ _)
      have hI2 := hI.keep (alloc_below wr (.cells #[.int .i64 x, .int .i64 y, .int .i64 z] 59))
      obtain ⟨W1, hW1⟩ : ∃ W, wr.alloc (.cells #[.int .i64 x, .int .i64 y, .int .i64 z] 59) = W := ⟨_, rfl⟩
      rw [hW1] at p0 p1 p2 hI2
      have ce := hI2.xe.cell
      have cf := hI2.xe.free
      have qq := unhide HQ
      have FIN : Hid (LA w (W1.setCell ⟨pe, 0, none⟩ (.int .i64 (t + x))) pl G1 pb pe (some ⟨b, o, none⟩) m c (Lin.usum (pT f) (fun _ => false) (k + 1)) (bhs R (lnH H) m)) := by
        show LA _ _ _ _ _ _ _ _ _ _ _
        rw [hE]
        exact hI2.setE (by omega) (by omega) (by omega) (by omega) _
      have e1 : (0 : Int) ≤ (k : Int) := by omega
      have e2 : (k : Int) < (m : Int) := by omega
      have e4 : IntKind.i64.wrap (t + x) = t + x := by rw [IntKind.wrap_i64]; omega
      have e6 : IntKind.i64.wrap ((k : Int) + 1) = (k : Int) + 1 := by rw [IntKind.wrap_i64]; omega
      clear hc3 hp he hE hf htt hI hI2 qq HLA
      go_wp2
      exact ⟨⟨k + 1, by go_num, hlt, unhide FIN⟩, by simp [intOf]; omega⟩
    · obtain rfl : k = m := by omega
      have e1 : ¬ (k : Int) < (k : Int) := by omega
      have mkB := make_bools k (by omega) wr
      have OB := make_ownB wr k
      have bB := alloc_below wr (.cells (brow (fun _ => false) k).toArray 4)
      have szB := alloc_size wr (.cells (brow (fun _ => false) k).toArray 4)
      obtain ⟨W1, hW1⟩ : ∃ W, wr.alloc (.cells (brow (fun _ => false) k).toArray 4) = W := ⟨_, rfl⟩
      rw [hW1] at mkB OB bB szB
      obtain ⟨G2, hG2⟩ : ∃ g, wr.heap.size = g := ⟨_, rfl⟩
      have hlt2 := hI.xe.lt
      rw [hG2] at mkB OB hlt2 szB
      have b2 := alloc_below W1 (.cells #[.slice (some ⟨G2, 0, none⟩) k k] 62)
      have sz2 := alloc_size W1 (.cells #[.slice (some ⟨G2, 0, none⟩) k k] 62)
      have xp := Box.new W1 62 (.slice (some ⟨G2, 0, none⟩) k k)
      obtain ⟨W2, hW2⟩ : ∃ W, W1.alloc (.cells #[.slice (some ⟨G2, 0, none⟩) k k] 62) = W := ⟨_, rfl⟩
      rw [hW2] at b2 sz2 xp
      obtain ⟨pp, hpp⟩ : ∃ p, W1.heap.size = p := ⟨_, rfl⟩
      rw [hpp] at xp sz2 szB
      have mkI := make_ints k (by omega) W2
      have OI := make_own W2 k
      have b3 := alloc_below W2 (.cells (lrow (fun _ => 0) k).toArray 3)
      obtain ⟨W3, hW3⟩ : ∃ W, W2.alloc (.cells (lrow (fun _ => 0) k).toArray 3) = W := ⟨_, rfl⟩
      rw [hW3] at mkI OI b3
      obtain ⟨G3, hG3⟩ : ∃ g, W2.heap.size = g := ⟨_, rfl⟩
      rw [hG3] at mkI OI sz2
      have LI3 : LI w W3 pl G1 pb pe G2 pp G3 a k c (Lin.usum (pT f) (fun _ => false) k) (bhs R (lnH H) k) (fun _ => false) (fun _ => 0) := ⟨(hI.keep bB).keep (below_step b2 b3), xp.keep b3, OB.keep (below_step b2 b3), OI⟩
      have HORD : Hid (Ord w.heap.size pl G1 pb pe G2 pp G3) := by
        obtain ⟨z1, z2, z3, z4⟩ := unhide HQ
        exact ⟨z1, z2, z3, z4, hlt2, by omega, by omega⟩
      have HLI := hide LI3
      have c1 := hI.xl.cell
      have c2 := ((hI.keep bB).keep b2).xl.cell
      have c3 := LI3.la.xl.cell
      have e7 : IntKind.i64.wrap ((k : Int) - 1) = (k : Int) - 1 := by rw [IntKind.wrap_i64]; omega
      clear OB bB szB hlt2 b2 sz2 xp OI b3 LI3 hI HLA
      go_wp2_with fail
      clear mkB mkI hW1 hW2 hW3 hG2 hpp hG3 c1 c2 c3 e7
      go_loopw [17, 18] (fun vg vp wv => ∃ (j : Nat) (st : Lin.LS), vp = .int .i64 ((k : Int) - 1 - (j : Int)) ∧ j ≤ k ∧ vg = .int .i64 st.gr ∧ (lw k f R (lnH H)).lst j = some st ∧ LI w wv pl G1 pb pe G2 pp G3 a k c ((lw k f R (lnH H)).E st.P) ((lw k f R (lnH H)).bh st.P) st.P (rowS k j st.suf)) (fun _ vp _ => (intOf vp + 1).toNat)
      case atStart => exact ⟨0, ⟨fun _ => false, [], 0⟩, by simp, Nat.zero_le _, rfl, rfl, (unhide HLI).congr (fun _ _ => rfl) (fun _ _ => rfl) (fun i hi => by unfold rowS; rw [if_neg (by omega)])⟩
      case round =>
        obtain ⟨j, ⟨P, suf, gr⟩, hvp, hj, rfl, hst, hI⟩ := hrel
        simp only at hI ⊢
        by_cases hjk : j < k
        · obtain ⟨q, hq⟩ : ∃ q, k - 1 - j = q := ⟨_, rfl⟩
          rw [show (k : Int) - 1 - (j : Int) = (q : Int) by omega] at hvp
          subst hvp
          have HVP : Hid ((q : Int) = (k : Int) - 1 - (j : Int)) := by show (q : Int) = _; omega
          have hE : 0 ≤ (lw k f R (lnH H)).E P ∧ (lw k f R (lnH H)).E P ≤ 60000000000 := lw_E_bd (unhide HGT) P k (Nat.le_refl _)
          have CH := hide (cheapest_any pl pe pp pb G1 G2 a k c f _ P _ wr (hI.lb (unhide HA)) (unhide HGT) hE)
          obtain ⟨⟨bs, ok⟩, hs⟩ : ∃ s, Lin.ck (freV P ((lw k f R (lnH H)).bh P)) (cstV f ((lw k f R (lnH H)).E P)) k = s := ⟨_, rfl⟩
          have hbest : (lw k f R (lnH H)).best P = (bs, ok) := hs
          rw [hs] at CH
          have clr := hI.la.xl.cell
          have f1 : (0 : Int) ≤ (q : Int) := by omega
          have HI := hide hI
          cases ok with
          | false =>
            have HV : Hid (lawcode k k f R (lnH H) = 12) := by
              show lawcode k k f R (lnH H) = 12
              have h5 : (lw k f R (lnH H)).lst (j + 1) = none := by
                show ((lw k f R (lnH H)).lst j).bind _ = none
                rw [hst]
                show Lin.Lw.next _ _ = none
                unfold Lin.Lw.next
                rw [hbest]; rfl
              unfold lawcode
              rw [if_neg (by rw [unhide HT]; decide), if_neg (by rw [unhide H1]; decide), Lin.Lw.lst_none _ h5 k hjk]; rfl
            clear hst hI hE hs hbest hq
            go_wp2_with fail
            refine (unhide CH).mono ?_
            rintro e W4 ⟨rfl, hb4⟩
            have HB4 := hide (below_step (unhide HI).la.bl hb4)
            clear hb4 CH
            go_wp2
            go_ret3
            refine ⟨unhide HB4, Or.inl ?_⟩
            rw [unhide HV]
            exact ⟨by decide, rfl⟩
          | true =>
            obtain ⟨b1, b2, _, _⟩ := Lin.Lw.best_ok (lw k f R (lnH H)) (P := P) (by rw [hbest])
            rw [hbest] at b1 b2
            have hbk : bs < k := b1
            have hPb : P bs = false := b2
            have C2 : Hid (∀ W, Below wr.heap.size wr W → Calls Tryd.prog 46 #[.int .i64 (bs : Int), .pointer (some ⟨pl, 0, none⟩), .pointer (some ⟨pe, 0, none⟩)] W fun e w' => e = .returned (.int .i64 (cstV f ((lw k f R (lnH H)).E P) bs)) ∧ Below W.heap.size W w') := fun W hW => cost1_any pl pe pp pb G1 G2 a k c f _ P _ W ((hI.keep hW).lb (unhide HA)) (unhide HGT) hE bs hbk
            have HN : Hid ((lw k f R (lnH H)).lst (j + 1) = some ⟨Lin.upT P bs, bs :: suf, max gr (cstV f ((lw k f R (lnH H)).E P) bs)⟩) := by
              show ((lw k f R (lnH H)).lst j).bind _ = _
              rw [hst]
              show Lin.Lw.next _ _ = _
              unfold Lin.Lw.next
              rw [hbest]; rfl
            have HEU : Hid ((lw k f R (lnH H)).E (Lin.upT P bs) = (lw k f R (lnH H)).E P - (f bs).1) := Lin.usum_upd (g := pT f) hPb k hbk
            have HBU : Hid (∀ y, (lw k f R (lnH H)).bh (Lin.upT P bs) y = (lw k f R (lnH H)).bh P y - Lin.cnt (R bs) y (lnH H bs)) := fun y => Lin.usum_upd (g := fun i => Lin.cnt (R i) y (lnH H i)) hPb k hbk
            obtain ⟨E0, hE0⟩ : ∃ v, (lw k f R (lnH H)).E P = v := ⟨_, rfl⟩
            rw [hE0] at hE C2 HN HEU
            have HI : Hid (LI w wr pl G1 pb pe G2 pp G3 a k c E0 ((lw k f R (lnH H)).bh P) P (rowS k j suf)) := by rw [← hE0]; exact hI
            have HE0 := hide hE
            have HQ0 : Hid (k - 1 - j = q) := hq
            obtain ⟨cv, hcv⟩ : ∃ v, cstV f E0 bs = v := ⟨_, rfl⟩
            rw [hcv] at C2 HN
            obtain ⟨mx, hmx⟩ : ∃ v, (if gr < cv then cv else gr) = v := ⟨_, rfl⟩
            rw [show max gr cv = mx by rw [← hmx]; split <;> omega] at HN
            clear hst hI hE hs hbest hq b1 b2 hcv hE0
            go_wp2_with fail
            refine (unhide CH).mono ?_
            rintro e W4 ⟨rfl, hb4⟩
            have D2 := hide (unhide C2 W4 hb4)
            have HB4 := hide hb4
            clear hb4 CH clr
            go_wp2_with fail
            refine (unhide D2).mono ?_
            rintro e W5 ⟨rfl, hb5⟩
            have LI5 := (unhide HI).keep (below_step (unhide HB4) hb5)
            have HI5 := hide LI5
            have cp5 := LI5.xp.cell
            have hqk : q < k := by have := unhide HQ0; omega
            have g3 := LI5.o3.cell hqk
            have g3f := LI5.o3.free q
            have g2 := LI5.o2.cell hbk
            have g2f := LI5.o2.free bs
            obtain ⟨u0, g3⟩ : ∃ v : Value, W5.cell? ⟨G3, q, none⟩ = some v := ⟨_, g3⟩
            obtain ⟨u1, g2⟩ : ∃ v : Value, W5.cell? ⟨G2, bs, none⟩ = some v := ⟨_, g2⟩
            have f2 : (q : Int) < (k : Int) := by omega
            have f3 : (0 : Int) ≤ (bs : Int) := by omega
            have f4 : (bs : Int) < (k : Int) := by omega
            have LI6 := LI5.setR (unhide HORD) q (bs : Int)
            have cp6 := LI6.xp.cell
            have g62 := LI6.o2.cell hbk
            have g62f := LI6.o2.free bs
            obtain ⟨u2, g62⟩ : ∃ v : Value, (W5.setCell ⟨G3, q, none⟩ (.int .i64 (bs : Int))).cell? ⟨G2, bs, none⟩ = some v := ⟨_, g62⟩
            clear LI5 LI6 D2 C2 HB4 hb5
            go_wp2_with fail
            go_region
            obtain ⟨W7, hW7⟩ : ∃ V, ((W5.setCell ⟨G3, q, none⟩ (.int .i64 (bs : Int))).setCell ⟨G2, bs, none⟩ (.bool true)).drew = V := ⟨_, rfl⟩
            have LI7 : LI w W7 pl G1 pb pe G2 pp G3 a k c E0 ((lw k f R (lnH H)).bh P) (Lin.upT P bs) (rowS k (j + 1) (bs :: suf)) := by
              rw [← hW7]
              refine ((((unhide HI5).setR (unhide HORD) q (bs : Int)).setP (unhide HORD) bs true).keep (drew_below _)).congr (fun _ _ => rfl) (fun _ _ => rfl) (fun i _ => ?_)
              rw [← unhide HQ0]
              exact rowS_succ hjk i
            rw [hW7]
            have ce7 := LI7.la.xe.cell
            have cf7 := LI7.la.xe.free
            have cl7 := LI7.la.xl.cell
            obtain ⟨b, o, rfl, hbl, hc3⟩ := ((unhide HA).below LI7.la.bl).2.2 (by omega)
            have ⟨t0, _, _⟩ := hc3 bs hbk
            have hp := (unhide HGT).p bs hbk
            obtain ⟨x, hx⟩ : ∃ x, (f bs).1 = x := ⟨_, rfl⟩
            rw [hx] at t0 hp HEU
            have e8 : IntKind.i64.wrap (E0 - x) = E0 - x := by have := unhide HE0; rw [IntKind.wrap_i64]; omega
            have HI7 := hide LI7
            clear hW7 g3 g3f g2 g2f cp5 cp6 g62 g62f LI7 hc3 hp hx hbl HI5 HI
            go_wp2_with fail
            go_region
            obtain ⟨W8, hW8⟩ : ∃ V, (W7.setCell ⟨pe, 0, none⟩ (.int .i64 (E0 - x))).drew = V := ⟨_, rfl⟩
            have LI8 : LI w W8 pl G1 pb pe G2 pp G3 (some ⟨b, o, none⟩) k c ((lw k f R (lnH H)).E (Lin.upT P bs)) ((lw k f R (lnH H)).bh P) (Lin.upT P bs) (rowS k (j + 1) (bs :: suf)) := by
              rw [← hW8, unhide HEU]
              exact ((unhide HI7).setE (unhide HORD) _).keep (drew_below _)
            rw [hW8]
            obtain ⟨_, _, h3, h4⟩ := unhide HR
            obtain ⟨b', o', rfl, hbl', hc'⟩ := h4 (by omega)
            have c0 := hc' bs hbk
            rw [← LI8.la.bl.cell (p := ⟨b', o' + bs, none⟩) hbl'] at c0
            have hrow := h3 bs hbk
            have hli := unhide HL bs
            obtain ⟨⟨ha0, hl0, hcp⟩, hH⟩ : ∃ t, H bs = t := ⟨_, rfl⟩
            have hlH : lnH H bs = hl0 := by unfold lnH; rw [hH]
            rw [hH] at c0 hrow
            rw [hlH] at hli HBU
            simp only at c0 hrow
            have HROW := hide hrow
            have HLH := hide hlH
            have HI8 := hide LI8
            have q5 := hrow.1
            have q6 := hrow.2.1
            clear h3 h4 hc' hrow hH hlH LI8 hW8 ce7 cf7 cl7 t0 e8 HI7 hbl'
            go_wp2_with fail
            go_loopw [99] (fun vi wv => ∃ i : Nat, vi = .int .i64 (i : Int) ∧ i ≤ hl0 ∧ LI w wv pl G1 pb pe G2 pp G3 (some ⟨b, o, none⟩) k c ((lw k f R (lnH H)).E (Lin.upT P bs)) (fun y => (lw k f R (lnH H)).bh P y - Lin.cnt (R bs) y i) (Lin.upT P bs) (rowS k (j + 1) (bs :: suf))) (fun vi _ => hl0 - (intOf vi).toNat)
            case atStart => exact ⟨0, rfl, Nat.zero_le _, (unhide HI8).congr (fun y _ => by show _ = _ - (0 : Int); omega) (fun _ _ => rfl) (fun _ _ => rfl)⟩
            case round =>
              obtain ⟨i, rfl, hi, hI⟩ := hrel
              by_cases hil : i < hl0
              · obtain ⟨b2, o2, rfl, hbl2, hc2⟩ := (unhide HROW).2.2 (by omega)
                have k0 := hc2 i hil
                rw [← hI.la.bl.cell (p := ⟨b2, o2 + i, none⟩) hbl2] at k0
                have hx := unhide HAH bs i hbk (by rw [unhide HLH]; exact hil)
                obtain ⟨y, hy⟩ : ∃ y : Nat, R bs i = (y : Int) := ⟨(R bs i).toNat, by omega⟩
                rw [hy] at k0 hx
                have hyk : y < k := by omega
                have cb := hI.la.xb.cell
                have g1 := hI.la.o1.cell hyk
                have g1f := hI.la.o1.free y
                have v1 := lw_bh_bd (f := f) (R := R) hn60 (unhide HL) P y
                have v2 := Lin.cnt_bd (R bs) y i
                obtain ⟨u, hu⟩ : ∃ u, (lw k f R (lnH H)).bh P y - Lin.cnt (R bs) y i = u := ⟨_, rfl⟩
                rw [hu] at g1
                have e9 : IntKind.i64.wrap (u - 1) = u - 1 := by rw [IntKind.wrap_i64]; omega
                have f5 : (0 : Int) ≤ (i : Int) := by omega
                have f6 : (i : Int) < (hl0 : Int) := by omega
                have f7 : (0 : Int) ≤ (y : Int) := by omega
                have f8 : (y : Int) < (k : Int) := by omega
                have f9 : IntKind.i64.wrap ((i : Int) + 1) = (i : Int) + 1 := by rw [IntKind.wrap_i64]; omega
                have FIN : Hid (LI w (wr.setCell ⟨G1, y, none⟩ (.int .i64 (u - 1))) pl G1 pb pe G2 pp G3 (some ⟨b, o, none⟩) k c ((lw k f R (lnH H)).E (Lin.upT P bs)) (fun y => (lw k f R (lnH H)).bh P y - Lin.cnt (R bs) y (i + 1)) (Lin.upT P bs) (rowS k (j + 1) (bs :: suf))) := by
                  refine (hI.setB (unhide HORD) y (u - 1)).congr (fun z _ => ?_) (fun _ _ => rfl) (fun _ _ => rfl)
                  unfold updI
                  show _ = (lw k f R (lnH H)).bh P z - (Lin.cnt (R bs) z i + (if R bs i = (z : Int) then 1 else 0))
                  by_cases hzy : z = y
                  · rw [if_pos hzy, if_pos (by rw [hy, hzy]), hzy]; omega
                  · rw [if_neg hzy, if_neg (by rw [hy]; omega)]
                    show (lw k f R (lnH H)).bh P z - Lin.cnt (R bs) z i = _
                    omega
                clear hI hc2 hx hy v1 v2 hu HI8
                go_wp2
                exact ⟨⟨i + 1, by go_num, hil, unhide FIN⟩, by simp [intOf]; omega⟩
              · obtain rfl : i = hl0 := by omega
                have f6 : ¬ (i : Int) < (i : Int) := by omega
                have FIN : Hid (LI w wr pl G1 pb pe G2 pp G3 (some ⟨b, o, none⟩) k c ((lw k f R (lnH H)).E (Lin.upT P bs)) ((lw k f R (lnH H)).bh (Lin.upT P bs)) (Lin.upT P bs) (rowS k (j + 1) (bs :: suf))) :=
                  hI.congr (fun z _ => (unhide HBU z).symm) (fun _ _ => rfl) (fun _ _ => rfl)
                have f9 : IntKind.i64.wrap ((q : Int) - 1) = (q : Int) - 1 := by rw [IntKind.wrap_i64]; omega
                clear hI HI8
                go_wp2_with fail
                (try simp only [Exit.inBlock, Exit.then])
                (try go_wp2_with fail)
                exact ⟨⟨j + 1, ⟨Lin.upT P bs, bs :: suf, mx⟩, by rw [unhide HVP]; congr 1; omega, hjk, rfl, unhide HN, unhide FIN⟩, by simp [intOf]⟩
        · obtain rfl : j = k := by omega
          rw [show (j : Int) - 1 - (j : Int) = -1 by omega] at hvp
          subst hvp
          have HV : Hid (lawcode j j f R (lnH H) = 0) := by
            show lawcode j j f R (lnH H) = 0
            unfold lawcode
            rw [if_neg (by rw [unhide HT]; decide), if_neg (by rw [unhide H1]; decide), hst]; rfl
          have HST := hide hst
          have HI := hide hI
          have HG3 : Hid (w.heap.size ≤ G3) := by
            obtain ⟨z1, z2, z3, z4, z5, z6, z7⟩ := unhide HORD
            exact (by omega : w.heap.size ≤ G3)
          clear hst hI
          go_wp2
          go_ret3
          exact ⟨(unhide HI).la.bl, Or.inr ⟨unhide HV, _, unhide HST, G3, unhide HG3, rfl, (unhide HI).o3⟩⟩
end Go.Proofs.YtmpigipeajdgcaaDoor
