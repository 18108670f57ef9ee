/- Renewals: what is taken from elsewhere; the law of ages in a row of fractions. -/
import Derived.Test.YtcelbgleajpenaaGreatDoorA18
import Derived.Test.YtcelbgleajpenaaGreatDoorA12
import Derived.Test.YtcelbgleajpenaaGreatDoorX1
import Derived.Test.YtcelbgleajpenaaGreatDoorBI
import Derived.WalkKit
import Derived.Test.YtcelbgleajpenaaGreatDoorX2
import Derived.Test.YtcelbgleajpenaaGreatDoorA15
import Derived.Test.YtcelbgleajpenaaGreatDoorRows
import Derived.WalkSpells
import Derived.WalkLawsBesides
import Derived.Test.YtcelbgleajpenaaGreatDoorA1
import Derived.Test.YtcelbgleajpenaaGreatDoorS0
import Derived.Test.YtcelbgleajpenaaGreatDoorA14
import Derived.Test.YtcelbgleajpenaaGreatDoorA16
import Derived.Test.YtcelbgleajpenaaGreatDoorBG
import Derived.Test.YtcelbgleajpenaaGreatDoorB46
import Derived.Test.YtcelbgleajpenaaGreatDoorB50
import Derived.Test.YtcelbgleajpenaaGreatDoorB43
import Derived.Laws.CopyOwn
namespace Go.Proofs.YtcelbgleajpenaaGreatDoor

theorem whole_RS {x : Int} (h : I64 x) : RS ((x : Int) : Rat) 1 := by
  obtain ⟨h1, h2⟩ := h
  have e : Wd.pw 1 = 18446744073709551616 := Wd.pw_one
  refine ⟨?_, ?_⟩
  · rw [e]; show (x.natAbs : Int) < _; omega
  · rw [e]; show ((1 : Nat) : Int) < _; decide

def wsum (qs : List Rat) (F : Nat → Int) : Nat → Rat
  | 0 => 0
  | k + 1 => wsum qs F k + qs[k]! * ((F k : Int) : Rat)
/-! what is beyond -/
/-! two amounts together -/
end Go.Proofs.YtcelbgleajpenaaGreatDoor
namespace Go.Proofs.YtcelbgleajpenaaGreatDoor
open Go.RowKit Go.Sort Go.Shelf

theorem wsum_RS {qs : List Rat} {J : Nat} {F : Nat → Int} (h : ∀ j, j < qs.length → RS qs[j]! J) (hF : ∀ j, j < qs.length → I64 (F j)) (k : Nat) (hk : k ≤ qs.length) : RS (wsum qs F k) (k * (J + 2) + 1) := by
  induction k with
  | zero => exact RS.zero.mono (by omega)
  | succ k ih => exact ((ih (by omega)).add ((h k (by omega)).mul (whole_RS (hF k (by omega))))).mono (by rw [Nat.succ_mul]; omega)

end Go.Proofs.YtcelbgleajpenaaGreatDoor
/- chance.raised, Moment and Over. -/
namespace Go.Proofs.YtcelbgleajpenaaGreatDoor
open Go.RowKit Go.Sort Go.Shelf

theorem pow_le100 {x i : Nat} (hx : x ≤ 100) (hi : i ≤ 4) : x ^ i ≤ 100000000 := by
  have h1 : x ^ i ≤ 100 ^ i := Nat.pow_le_pow_left hx i
  have h2 : 100 ^ i ≤ 100 ^ 4 := Nat.pow_le_pow_right (by decide) hi
  have h3 : (100 : Nat) ^ 4 = 100000000 := by decide
  omega

theorem pow_I64 {x p : Nat} (hx : x ≤ 100) (hp : p ≤ 4) : I64 ((x ^ p : Nat) : Int) := by
  have := pow_le100 hx hp
  exact ⟨by omega, by omega⟩
theorem errV_zero : errV 0 = .nilIface := rfl
theorem errV_not {k : Int} (h : k ≠ 0) : errV k = .iface 27 (.int .i64 k) := by unfold errV; rw [if_neg h]

end Go.Proofs.YtcelbgleajpenaaGreatDoor
namespace Go.Proofs.YtcelbgleajpenaaGreatDoor
open Go.RowKit Go.Sort Go.Shelf

theorem RS_int {x : Int} (h : I64 x) : RS (x : Rat) 1 := by
  refine ⟨?_, ?_⟩
  · rw [Rat.num_intCast, Wd.pw_one]; have := h.1; have := h.2; omega
  · rw [Rat.den_intCast]; decide
/-- A whole number's power, as a fraction. -/
def powR (x p : Nat) : Rat := (((x ^ p : Nat) : Int) : Rat)
set_option maxHeartbeats 8000000 in
set_option maxRecDepth 100000 in
set_option linter.unusedSimpArgs false in
theorem refPower_any (x p b : Nat) (hx : x ≤ 100) (hp : p ≤ 4) (w : World) (h : BRz w b 0 (((x : Nat) : Int) : Rat)) :
    Calls Tryz.prog 62 #[.pointer (some ⟨b, 0, none⟩), .int .i64 (p : Int)] w (NewsZ w (powR x p)) := by
  have HH := hide h
  have HX := hide hx
  have HI := hide (refIntz_any 1 (by decide) (by decide) w)
  clear h hx
  go_enter Tryz.func62, Tryz.ntmps62
  go_wp2_with fail
  refine (unhide HI).mono ?_
  rintro e w1 ⟨b1, rfl, hge, hr, hb⟩
  have HR := hide hr
  have HB := hide hb
  have HG := hide hge
  clear hr hb hge HI
  go_wp2_with fail
  go_loopw [5, 6] (fun vs vi wr => ∃ (i b' : Nat), vs = .pointer (some ⟨b', 0, none⟩) ∧ vi = .int .i64 (i : Int) ∧ i ≤ p ∧ BRz wr b' 0 (powR x i) ∧ Below w.heap.size w wr ∧ w.heap.size ≤ b') (fun _ vi _ => p - (intOf vi).toNat)
  case atStart => exact ⟨0, b1, rfl, rfl, Nat.zero_le _, by simpa [powR] using unhide HR, unhide HB, unhide HG⟩
  case round =>
    obtain ⟨i, b', rfl, rfl, hi, hr, hb, hge⟩ := hrel
    have HGE := hide hge
    have HBB := hide hb
    by_cases hlt : i < p
    · have f1 : (i : Int) < (p : Int) := by omega
      have f3 : IntKind.i64.wrap ((i : Int) + 1) = (i : Int) + 1 := by rw [IntKind.wrap_i64]; omega
      have HM := hide (refMul_any b' b 1 1 _ _ wr hr ((unhide HH).below hb) (RS_int (pow_I64 (unhide HX) (by omega))) (RS_int ⟨by have := unhide HX; omega, by have := unhide HX; omega⟩) (by decide))
      have e : powR x i * (((x : Nat) : Int) : Rat) = powR x (i + 1) := by
        unfold powR
        rw [← Rat.intCast_mul, Nat.pow_succ, Int.natCast_mul]
      rw [e] at HM
      clear hr hb hge e
      go_wp2_with fail
      refine (unhide HM).mono ?_
      rintro e w2 ⟨b2, rfl, hge2, hr2, hb2⟩
      have HR2 := hide hr2
      have HB2 := hide (bstep (unhide HBB) hb2)
      have HG2 := hide (Nat.le_trans (unhide HBB).size hge2)
      clear hr2 hb2 hge2 HM
      go_wp2_with fail
      exact ⟨⟨i + 1, b2, rfl, by go_num, hlt, unhide HR2, unhide HB2, unhide HG2⟩, by simp [intOf]; omega⟩
    · obtain rfl : p = i := by omega
      have f1 : ¬ (p : Int) < (p : Int) := by omega
      have HR2 := hide hr
      clear hr hb hge
      go_wp2
      (try simp only [Exit.inBlock, Exit.then])
      (try go_wp2)
      go_ret
      exact ⟨b', rfl, unhide HGE, unhide HR2, unhide HBB⟩
set_option maxHeartbeats 8000000 in
set_option maxRecDepth 100000 in
set_option linter.unusedSimpArgs false in
theorem refMoment_any (v : Value) (qs : List Rat) (p : Nat) (w : World) (h : RList w v qs) (hq : ∀ j, j < qs.length → RS qs[j]! 1) (hl : qs.length ≤ 101) (hp : p ≤ 4) :
    Calls Tryz.prog 75 #[v, .int .i64 (p : Int)] w (NewsZ w (wsum qs (fun j => ((j ^ p : Nat) : Int)) qs.length)) := by
  obtain ⟨a, c, rfl, h1, h2, h3⟩ := h
  obtain ⟨n, hn⟩ : ∃ n, qs.length = n := ⟨_, rfl⟩
  rw [hn] at h1 h3 hl ⊢
  have H3 := hide h3
  have HQ := hide hq
  have HN := hide hn
  have HL := hide hl
  have HP := hide hp
  have HI := hide (refIntz_any 0 (by decide) (by decide) w)
  rw [Rat.intCast_zero] at HI
  clear h3 hq hn hl hp
  go_enter Tryz.func75, Tryz.ntmps75
  go_wp2_with fail
  refine (unhide HI).mono ?_
  rintro e w1 ⟨b1, rfl, hge, hr, hb⟩
  have HR := hide hr
  have HB := hide hb
  have HG := hide hge
  clear hr hb hge HI
  go_wp2_with fail
  go_loopw [5, 11] (fun vs vi wr => ∃ (i b' : Nat), vs = .pointer (some ⟨b', 0, none⟩) ∧ vi = .int .i64 (i : Int) ∧ i ≤ n ∧ BRz wr b' 0 (wsum qs (fun j => ((j ^ p : Nat) : Int)) i) ∧ Below w.heap.size w wr ∧ w.heap.size ≤ b') (fun _ vi _ => n - (intOf vi).toNat)
  case atStart => exact ⟨0, b1, rfl, rfl, Nat.zero_le _, unhide HR, unhide HB, unhide HG⟩
  case round =>
    obtain ⟨i, b', rfl, rfl, hi, hr, hb, hge⟩ := hrel
    have HGE := hide hge
    have HBB := hide hb
    have HRR := hide hr
    by_cases hlt : i < n
    · obtain ⟨bl, ol, rfl, hblt, hcs⟩ := unhide H3 (by omega)
      obtain ⟨x, k0, kx⟩ := hcs i hlt
      rw [← hb.cell (p := ⟨bl, ol + i, none⟩) hblt] at k0
      have HKX := hide (kx.below hb)
      have hi0 : (0 : Int) ≤ (i : Int) := by omega
      have hi1 : (i : Int) < (n : Int) := by omega
      have hI : i ≤ 100 := by have := unhide HL; omega
      have HI1 := hide hI
      have hF : I64 ((fun j => ((j ^ p : Nat) : Int)) i) := pow_I64 hI (unhide HP)
      have HF := hide hF
      have HWS := hide (wsum_RS (F := (fun j => ((j ^ p : Nat) : Int))) (unhide HQ) (fun j hj => pow_I64 (by have := unhide HL; have := unhide HN; omega) (unhide HP)) i (by rw [unhide HN]; exact hi))
      have HQI := hide (unhide HQ i (by rw [unhide HN]; exact hlt))
      have e9 : wsum qs (fun j => ((j ^ p : Nat) : Int)) (i + 1) = wsum qs (fun j => ((j ^ p : Nat) : Int)) i + qs[i]! * (((fun j => ((j ^ p : Nat) : Int)) i : Int) : Rat) := rfl
      have HE9 := hide e9
      have HJJ : Hid (i * (1 + 2) + 1 + (1 + 1) ≤ 400000) := by show _ ≤ _; omega
      clear hr hb hge kx hcs hF hI e9
      have HIN := hide (refIntz_any (i : Int) (by have := unhide HI1; omega) (by have := unhide HI1; omega) wr)
      go_wp2_with fail
      refine (unhide HIN).mono ?_
      rintro e w3 ⟨b3, rfl, -, hr3, hb3⟩
      have HB3 := hide hb3
      have HPW := hide (refPower_any i p b3 (unhide HI1) (unhide HP) w3 hr3)
      clear hr3 hb3 HIN
      go_wp2_with fail
      refine (unhide HPW).mono ?_
      rintro e wz ⟨bz, rfl, -, hrz, hbz⟩
      have HRZ : Hid (BRz wz bz 0 ((((i ^ p : Nat) : Int) : Int) : Rat)) := hrz
      have HBZ := hide (bstep (unhide HB3) hbz)
      clear hrz hbz HPW
      go_wp2_with fail
      refine (refMul_any x bz 1 1 _ _ wz ((unhide HKX).below (unhide HBZ)) (unhide HRZ) (unhide HQI) (RS_int (unhide HF)) (by decide)).mono ?_
      rintro e w5 ⟨b5, rfl, -, hr5, hb5⟩
      have HB5 := hide (bstep (unhide HBZ) hb5)
      have HA := hide (refAdd_any b' b5 (i * (1 + 2) + 1) (1 + 1) _ _ w5 ((unhide HRR).below (unhide HB5)) hr5 (unhide HWS) (RS.mul (unhide HQI) (RS_int (unhide HF))) (unhide HJJ))
      rw [← unhide HE9] at HA
      clear hr5 hb5
      go_wp2_with fail
      refine (unhide HA).mono ?_
      rintro e w6 ⟨b6, rfl, hge6, hr6, hb6⟩
      have HR6 := hide hr6
      have HB6 := hide (bstep (bstep (unhide HBB) (unhide HB5)) hb6)
      have HG6 := hide (Nat.le_trans (bstep (unhide HBB) (unhide HB5)).size hge6)
      clear hr6 hb6 hge6 HA
      go_wp2_with fail
      exact ⟨⟨i + 1, b6, rfl, by go_num, hlt, unhide HR6, unhide HB6, unhide HG6⟩, by simp [intOf]; omega⟩
    · obtain rfl : n = i := by omega
      clear hr hb hge
      go_wp2
      (try simp only [Exit.inBlock, Exit.then])
      (try go_wp2)
      go_ret
      exact ⟨b', rfl, unhide HGE, unhide HRR, unhide HBB⟩
end Go.Proofs.YtcelbgleajpenaaGreatDoor
namespace Go.Proofs.YtcelbgleajpenaaGreatDoor.Bth

theorem ne_of_pos {a : Rat} (h : 0 < a) : a ≠ 0 := fun e => by rw [e] at h; exact absurd h (by decide)
/-- How likely each number is, for one another. -/
def pe (u d : Nat → Rat) : Nat → Rat
  | 0 => 1
  | n + 1 => pe u d n * u n / d n
/-- The first numbers together. -/
def ps (f : Nat → Rat) : Nat → Rat
  | 0 => 0
  | k + 1 => ps f k + f k

theorem ps_mono {f : Nat → Rat} {N : Nat} (h : ∀ n, n < N → 0 ≤ f n) (j k : Nat) (hjk : j ≤ k) (hk : k ≤ N) : ps f j ≤ ps f k := by
  induction k with
  | zero => obtain rfl : j = 0 := by omega
            exact Rat.le_refl
  | succ k ih =>
    rcases Nat.lt_or_ge k j with h' | h'
    · obtain rfl : j = k + 1 := by omega
      exact Rat.le_refl
    · have a := ih h' (by omega)
      have b := h k (by omega)
      show ps f j ≤ ps f k + f k
      grind
theorem ps_ge {f : Nat → Rat} {N : Nat} (h0 : f 0 = 1) (h : ∀ n, n < N → 0 ≤ f n) (k : Nat) (hk : k + 1 ≤ N) : 1 ≤ ps f (k + 1) := by
  have a := ps_mono h 1 (k + 1) (by omega) hk
  have b : ps f 1 = 1 := by show (0 : Rat) + f 0 = 1; rw [h0, Rat.zero_add]
  rw [b] at a
  exact a
theorem one_pos {x : Rat} (h : 1 ≤ x) : 0 < x := by
  have : (0 : Rat) < 1 := by decide
  grind
theorem ps_congr {f g : Nat → Rat} (k : Nat) (h : ∀ j, j < k → f j = g j) : ps f k = ps g k := by
  induction k with
  | zero => rfl
  | succ k ih => show ps f k + f k = ps g k + g k; rw [ih (fun j hj => h j (by omega)), h k (by omega)]
/-! Erlang -/
end Go.Proofs.YtcelbgleajpenaaGreatDoor.Bth
/-! Kaufman and Roberts -/
namespace Go.Proofs.YtcelbgleajpenaaGreatDoor.Bth
end Go.Proofs.YtcelbgleajpenaaGreatDoor.Bth
namespace Go.Proofs.YtcelbgleajpenaaGreatDoor
open Go.RowKit Go.Sort Go.Shelf

/-- The first k of a row of N are said, the others 0. -/
def fill (f : Nat → Rat) (N k : Nat) : List Rat := (List.range N).map fun i => if i < k then f i else 0
theorem fill_length (f : Nat → Rat) (N k : Nat) : (fill f N k).length = N := by simp [fill]
theorem fill_zero (f : Nat → Rat) (N : Nat) : List.replicate N 0 = fill f N 0 := by
  apply List.ext_getElem?
  intro i
  unfold fill
  by_cases h : i < N <;> simp [h]
theorem fill_get {f : Nat → Rat} {N k i : Nat} (h : i < k) (hN : i < N) : (fill f N k)[i]! = f i := by simp [fill, h, hN]
theorem fill_set (f : Nat → Rat) (N k : Nat) : (fill f N k).set k (f k) = fill f N (k + 1) := by
  apply List.ext_getElem?
  intro i
  unfold fill
  rw [List.getElem?_set]
  by_cases h : k = i
  · subst h
    by_cases hk : k < N <;> simp [hk]
  · by_cases hi : i < N
    · have e : (i < k + 1) = (i < k) := by apply propext; omega
      simp [h, hi, e]
    · simp [h, hi]
/-- A row that is said wholly. -/
def row (f : Nat → Rat) (N : Nat) : List Rat := fill f N N
theorem row_length (f : Nat → Rat) (N : Nat) : (row f N).length = N := fill_length _ _ _
theorem row_get {f : Nat → Rat} {N i : Nat} (h : i < N) : (row f N)[i]! = f i := fill_get h h
theorem row_eq {qs : List Rat} {f : Nat → Rat} {N : Nat} (hl : qs.length = N) (h : ∀ i, i < N → qs[i]! = f i) : qs = row f N := by
  apply List.ext_getElem?
  intro i
  by_cases hi : i < N
  · have a := h i hi
    rw [← row_get (f := f) hi] at a
    rw [List.getElem!_eq_getElem?_getD, List.getElem!_eq_getElem?_getD] at a
    have h1 : i < qs.length := by omega
    have h2 : i < (row f N).length := by rw [row_length]; exact hi
    rw [List.getElem?_eq_getElem h1, List.getElem?_eq_getElem h2] at a ⊢
    simpa using a
  · rw [List.getElem?_eq_none (by omega), List.getElem?_eq_none (by rw [row_length]; omega)]
theorem row_congr {f g : Nat → Rat} {N : Nat} (h : ∀ i, i < N → f i = g i) : row f N = row g N := row_eq (row_length f N) (fun i hi => by rw [row_get hi, h i hi])
theorem make_ratios (k : Int) (h0 : 0 ≤ k) (h1 : k ≤ 1099511627776) (w : World) :
    (Instr.makeSlice 42 (.int .i64 k) (.int .i64 k)).run Tryz.prog w = .ok (.slice (some ⟨w.heap.size, 0, none⟩) k.toNat k.toNat) (w.alloc (.cells (tcells (List.replicate k.toNat zTri)).toArray 37)) := by
  obtain ⟨i, hi, hz0, hz1, hz2⟩ := info_parts Tryz.infoR
  have e : madeCells (Value.agg zR).cells (k.toNat * i.size) = (tcells (List.replicate k.toNat zTri)).toArray := by
    rw [hz1, zcells]
    have hzc : (Value.agg zR).cells = zR := by simp [Value.cells, zR]
    rw [hzc]
    generalize k.toNat * 3 = n
    apply Array.ext
    · simp [madeCells]
    · intro j h1 h2
      simp [madeCells, zR]
  rw [run_make w 42 37 i (.agg zR) Tryz.underlying42 hi hz0 .i64 .i64 k k h0 (Int.le_refl _) (by rw [hz2]; omega) (by omega), e]

theorem BoxIs.rowed {w : World} {b g : Nat} {t : Tri} {q : Rat} {us : List Tri} (h : BoxIs w b t q) (hg : w.heap[g]? = some (.cells (tcells us).toArray 37)) (hne : b ≠ g) (i0 i1 i2 : Nat) (x0 x1 x2 : Value) :
    BoxIs (((w.setCell ⟨g, i0, none⟩ x0).setCell ⟨g, i1, none⟩ x1).setCell ⟨g, i2, none⟩ x2) b t q :=
  ⟨by rw [Below.heap_setCell _ _ _ _ hne, Below.heap_setCell _ _ _ _ hne, Below.heap_setCell _ _ _ _ hne]; exact h.1, h.2.rowed hg _ _ _ _ _ _⟩

end Go.Proofs.YtcelbgleajpenaaGreatDoor
namespace Go.Proofs.YtcelbgleajpenaaGreatDoor
open Go.RowKit Go.Sort Go.Shelf

theorem one_RS' : RS (1 : Rat) 1 := by
  refine ⟨?_, ?_⟩ <;> (show (1 : Int) < Wd.pw 1; decide)
theorem RS.sub' {a b : Rat} {i j : Nat} (ha : RS a i) (hb : RS b j) : RS (a - b) (i + j + 1) := by
  rw [Rat.sub_eq_add_neg]; exact ha.add hb.neg
theorem RS.div' {a b : Rat} {i j : Nat} (ha : RS a i) (hb : RS b j) (hz : b.num ≠ 0) : RS (a / b) (i + j) := by
  rw [Rat.div_def]; exact ha.mul (hb.inv hz)

end Go.Proofs.YtcelbgleajpenaaGreatDoor
namespace Go.Proofs.YtcelbgleajpenaaGreatDoor
open Go.RowKit Go.Sort Go.Shelf

theorem pqs_get {l : List (Int × Int)} {t : Nat} (h : t < l.length) : (pqs l)[t]! = pq l[t]! := by simp [pqs, h]
theorem pqs_RS {w : World} {v : Value} {qs : List (Int × Int)} (h : PairsAre w v qs) (t : Nat) (ht : t < (pqs qs).length) : RS (pqs qs)[t]! 1 := by
  rw [pqs_length] at ht
  obtain ⟨_, _, _, _, _, h6, _⟩ := h
  rw [pqs_get ht]
  exact pq_RS (h6 t ht).1 (h6 t ht).2
end Go.Proofs.YtcelbgleajpenaaGreatDoor
namespace Go.Proofs.YtcelbgleajpenaaGreatDoor.Rnw
open Bth

/-- How likely a thing lasts longer. -/
def sv (x : Nat → Rat) (n : Nat) : Rat := 1 - ps x (n + 1)
theorem ps_add (f g : Nat → Rat) (k : Nat) : ps (fun j => f j + g j) k = ps f k + ps g k := by
  induction k with
  | zero => show (0 : Rat) = 0 + 0; grind
  | succ k ih => show ps _ k + (f k + g k) = (ps f k + f k) + (ps g k + g k); rw [ih]; grind
theorem ps_cut (f : Nat → Rat) (n k : Nat) (hn : n ≤ k) (h : ∀ j, n ≤ j → j < k → f j = 0) : ps f k = ps f n := by
  induction k with
  | zero => obtain rfl : n = 0 := by omega
            rfl
  | succ k ih =>
    rcases Nat.lt_or_ge k n with h' | h'
    · obtain rfl : n = k + 1 := by omega
      rfl
    · show ps f k + f k = _
      rw [ih h' (fun j a b => h j a (by omega)), h k h' (by omega)]
      grind
/-! What is left -/
theorem sv_first (x : Nat → Rat) (N : Nat) : ps (sv x) N = ps (fun j => x j * ((j : Nat) : Int)) N + ((N : Nat) : Int) * (1 - ps x N) := by
  induction N with
  | zero => show (0 : Rat) = 0 + (((0 : Nat) : Int) : Rat) * (1 - 0); simp; grind
  | succ N ih =>
    show ps (sv x) N + (1 - (ps x N + x N)) = (ps _ N + x N * ((N : Nat) : Int)) + (((N + 1 : Nat) : Int) : Rat) * (1 - (ps x N + x N))
    rw [ih]
    have e : (((N + 1 : Nat) : Int) : Rat) = (((N : Nat) : Int) : Rat) + 1 := by push_cast; rfl
    rw [e]; grind
/-- A law of ages: none fails at 0, none behind the last. -/
structure Age (x : Nat → Rat) (g : Nat) : Prop where
  z : x 0 = 0
  nn : ∀ j, 0 ≤ x j
  sum : ps x (g + 1) = 1
  out : ∀ j, g < j → x j = 0
theorem Age.upto {x : Nat → Rat} {g : Nat} (h : Age x g) {n : Nat} (hn : g + 1 ≤ n) : ps x n = 1 := by
  rw [ps_cut x (g + 1) n hn (fun j a _ => h.out j (by omega))]; exact h.sum
theorem Age.sv_nn {x : Nat → Rat} {g : Nat} (h : Age x g) (n : Nat) : 0 ≤ sv x n := by
  rcases Nat.lt_or_ge n (g + 1) with a | a
  · have b := ps_mono (N := g + 1) (fun j _ => h.nn j) (n + 1) (g + 1) (by omega) (Nat.le_refl _)
    rw [h.sum] at b
    unfold sv
    grind
  · unfold sv; rw [h.upto (by omega)]; grind
theorem Age.sv_zero {x : Nat → Rat} {g : Nat} (h : Age x g) {n : Nat} (hn : g ≤ n) : sv x n = 0 := by
  unfold sv; rw [h.upto (by omega)]; grind
theorem Age.sv0 {x : Nat → Rat} {g : Nat} (h : Age x g) : sv x 0 = 1 := by
  show 1 - (0 + x 0) = 1
  rw [h.z]; grind
theorem Age.g1 {x : Nat → Rat} {g : Nat} (h : Age x g) : 1 ≤ g := by
  rcases Nat.lt_or_ge 0 g with a | a
  · exact a
  · obtain rfl : g = 0 := by omega
    have := h.sum
    have e : ps x (0 + 1) = 0 := by show (0 : Rat) + x 0 = 0; rw [h.z]; grind
    rw [e] at this
    exact absurd this (by decide)
theorem Age.mean {x : Nat → Rat} {g : Nat} (h : Age x g) : ps (sv x) g = ps (fun j => x j * ((j : Nat) : Int)) (g + 1) := by
  have a := sv_first x (g + 1)
  rw [h.sum] at a
  have b : ps (sv x) (g + 1) = ps (sv x) g + sv x g := rfl
  rw [h.sv_zero (Nat.le_refl _)] at b
  grind
theorem Age.there {x : Nat → Rat} {g : Nat} (h : Age x g) {n : Nat} (hn : 1 ≤ n) : 1 ≤ ps (sv x) n := by
  obtain ⟨k, rfl⟩ : ∃ k, n = k + 1 := ⟨n - 1, by omega⟩
  exact ps_ge (N := k + 1) h.sv0 (fun j _ => h.sv_nn j) k (Nat.le_refl _)
theorem Age.ne {x : Nat → Rat} {g : Nat} (h : Age x g) {n : Nat} (hn : 1 ≤ n) : ps (sv x) n ≠ 0 := ne_of_pos (one_pos (h.there hn))
/-! What it costs -/
/-! Who comes -/
end Go.Proofs.YtcelbgleajpenaaGreatDoor.Rnw
namespace Go.Proofs.YtcelbgleajpenaaGreatDoor
open Go.RowKit Go.Sort Go.Shelf

set_option maxHeartbeats 4000000 in
set_option maxRecDepth 100000 in
set_option linter.unusedSimpArgs false in
theorem refQuot_any (b1 b2 i j : Nat) (qx qy : Rat) (w : World) (x : BRz w b1 0 qx) (y : BRz w b2 0 qy) (rx : RS qx i) (ry : RS qy j) (hij : i + j ≤ 400000) (hy : qy.num ≠ 0) :
    Calls Tryz.prog 74 #[.pointer (some ⟨b1, 0, none⟩), .pointer (some ⟨b2, 0, none⟩)] w (NewsZ w (qx / qy)) := by
  have k := slotR_new w
  have bA := abelow w (.cells #[.bool false, .slice none 0 0, .bool false, .slice none 0 0] 86)
  obtain ⟨W0, hW0⟩ : ∃ W, w.alloc (.cells #[.bool false, .slice none 0 0, .bool false, .slice none 0 0] 86) = W := ⟨_, rfl⟩
  obtain ⟨g, hg⟩ : ∃ g, w.heap.size = g := ⟨_, rfl⟩
  rw [hW0, hg] at k
  rw [hW0] at bA
  have HS := hide (rquoz_any g 0 b1 0 b2 0 i j qx qy W0 k (x.below bA) (y.below bA) rx ry hij hy)
  have HB := hide bA
  have HG := hide hg
  have HSG := hide (signz_any b2 0 qy w y)
  have hs : (qy.num.sign == 0) = false := by
    rw [beq_eq_false_iff_ne]
    exact fun e => hy (Int.sign_eq_zero_iff_zero.1 e)
  have HW0 := hide hW0
  clear k bA x y rx ry hij hW0 hg hy
  go_enter Tryz.func74, Tryz.ntmps74
  go_wp2_with fail
  refine (unhide HSG).mono ?_
  rintro e w1 ⟨rfl, hw⟩
  have hw := hw.symm
  subst hw
  have hW0 := unhide HW0
  have hg := unhide HG
  go_wp2_with fail
  clear hW0 hg
  refine (unhide HS).mono ?_
  rintro e w1 ⟨rfl, hr, hf⟩
  have HR := hide hr
  have HF := hide (hf w (unhide HB) (Nat.le_of_eq (unhide HG)))
  clear hr hf HS
  go_wp2
  go_ret
  exact ⟨g, rfl, Nat.le_of_eq (unhide HG), (unhide HR).z, unhide HF⟩
end Go.Proofs.YtcelbgleajpenaaGreatDoor
namespace Go.Proofs.YtcelbgleajpenaaGreatDoor
open Go.RowKit Go.Sort Go.Shelf

theorem SumsAt.rebase {w w1 wr : World} {g : Nat} {us : List Tri} {qs : List Rat} (h : SumsAt w1 wr g us qs) (hb : Below w.heap.size w w1) : SumsAt w wr g us qs :=
  ⟨h.row, h.len, h.rat, below_step hb h.bl, Nat.le_trans hb.size h.gl⟩
theorem row_setq {f g : Nat → Rat} {n j : Nat} {v : Rat} (hj : j < n) (h1 : g j = v) (h2 : ∀ i, i < n → i ≠ j → g i = f i) : (row f n).set j v = row g n := by
  refine row_eq (by rw [List.length_set, row_length]) (fun i hi => ?_)
  rw [List.getElem!_eq_getElem?_getD, List.getElem?_set]
  by_cases e : j = i
  · subst e
    rw [if_pos rfl, if_pos (by rw [row_length]; exact hj)]
    exact h1.symm
  · rw [if_neg e, ← List.getElem!_eq_getElem?_getD, row_get hi]
    exact (h2 i hi (Ne.symm e)).symm
/-- The row's numbers as a function: 0 behind its end. -/
def xq (qs : List Rat) (i : Nat) : Rat := qs[i]!
theorem xq_out {qs : List Rat} {i : Nat} (h : qs.length ≤ i) : xq qs i = 0 := by
  show qs[i]! = 0
  rw [List.getElem!_eq_getElem?_getD, List.getElem?_eq_none h]; rfl
theorem qsum_xq (qs : List Rat) : ∀ k, qsum qs k = Bth.ps (xq qs) k
  | 0 => rfl
  | k + 1 => by show qsum qs k + qs[k]! = _; rw [qsum_xq qs k]; rfl
theorem wsum_ps (qs : List Rat) (F : Nat → Int) : ∀ k, wsum qs F k = Bth.ps (fun j => xq qs j * ((F j : Int) : Rat)) k
  | 0 => rfl
  | k + 1 => by show wsum qs F k + qs[k]! * _ = _; rw [wsum_ps qs F k]; rfl
theorem tlen_zero' (qs : List Rat) : ∀ n j, tlen qs n ≤ j → j < n → qs[j]! = 0
  | 0, _, _, h => absurd h (Nat.not_lt_zero _)
  | 1, j, h, h' => by unfold tlen at h; omega
  | n + 2, j, h, h' => by
    unfold tlen at h
    split at h
    · rename_i hz
      rcases Nat.lt_or_ge j (n + 1) with h1 | h1
      · exact tlen_zero' qs (n + 1) j h h1
      · obtain rfl : j = n + 1 := by omega
        exact Rat.num_eq_zero.1 hz
    · omega
/-- What renew's check says: as Check, and 11 where one may fail at 0. -/
def rnc (qs : List Rat) : Int := if chk qs = 0 then (if 0 < (xq qs 0).num then 11 else 0) else chk qs
theorem rnc_zero {qs : List Rat} (h : rnc qs = 0) : chk qs = 0 ∧ xq qs 0 = 0 := by
  unfold rnc at h
  by_cases hc : chk qs = 0
  · rw [if_pos hc] at h
    refine ⟨hc, ?_⟩
    by_cases h0 : 0 < (xq qs 0).num
    · rw [if_pos h0] at h; exact absurd h (by decide)
    · obtain ⟨a, _, c, _⟩ := chk_zero hc
      have := c 0 a
      exact Rat.num_eq_zero.1 (by show (qs[0]!).num = 0; have h0' : ¬ 0 < (qs[0]!).num := h0; omega)
  · rw [if_neg hc] at h; exact absurd h hc
/-- The greatest age. -/
def gst (qs : List Rat) : Nat := tlen qs qs.length - 1
theorem rnc_age {qs : List Rat} (h : rnc qs = 0) : Rnw.Age (xq qs) (gst qs) ∧ gst qs + 1 = tlen qs qs.length ∧ gst qs + 1 ≤ qs.length ∧ qs.length ≤ 101 := by
  obtain ⟨hc, h0⟩ := rnc_zero h
  obtain ⟨a, b, c, d⟩ := chk_zero hc
  have t1 := tlen_pos' qs a
  have t2 := tlen_le qs qs.length
  have e : gst qs + 1 = tlen qs qs.length := by unfold gst; omega
  have hout : ∀ j, gst qs < j → xq qs j = 0 := fun j hj => by
    rcases Nat.lt_or_ge j qs.length with h1 | h1
    · exact tlen_zero' qs qs.length j (by omega) h1
    · exact xq_out h1
  refine ⟨⟨h0, fun j => ?_, ?_, hout⟩, e, by omega, b⟩
  · rcases Nat.lt_or_ge j qs.length with h1 | h1
    · exact Rat.num_nonneg.1 (c j h1)
    · rw [xq_out h1]; exact Rat.le_refl
  · rw [← Rnw.ps_cut (xq qs) (gst qs + 1) qs.length (by omega) (fun j p _ => hout j (by omega)), ← qsum_xq]; exact d
theorem LawIs.parts {w : World} {a : Option Addr} {n c : Nat} {qs : List Rat} (h : LawIs w (.slice a n c) qs) : qs.length = n ∧ n ≤ c ∧ c ≤ 9223372036854775807 ∧ (0 < n → ∃ b o, a = some ⟨b, o, none⟩ ∧ b < w.heap.size ∧ ∀ j, j < n → ∃ t : Tri, w.cell? ⟨b, o + j * 3, none⟩ = some (.bool t.s) ∧ w.cell? ⟨b, o + j * 3 + 1, none⟩ = some (.slice t.a1 t.n1 t.c1) ∧ w.cell? ⟨b, o + j * 3 + 2, none⟩ = some (.slice t.a2 t.n2 t.c2) ∧ RatIs w t.val (xq qs j)) := by
  have h' := h
  obtain ⟨a', c', e, h1, h2, h3⟩ := h
  injection e with e1 e2 e3
  subst e1; subst e3; subst e2
  refine ⟨rfl, h1, h2, fun hp => ?_⟩
  obtain ⟨b, o, ea, hlt, hc⟩ := h3 hp
  refine ⟨b, o, ea, hlt, fun j hj => ?_⟩
  obtain ⟨s, a1, a2, n1, c1, n2, c2, k0, k1, k2, r⟩ := hc j hj
  exact ⟨⟨s, a1, a2, n1, c1, n2, c2⟩, k0, k1, k2, r⟩
end Go.Proofs.YtcelbgleajpenaaGreatDoor
