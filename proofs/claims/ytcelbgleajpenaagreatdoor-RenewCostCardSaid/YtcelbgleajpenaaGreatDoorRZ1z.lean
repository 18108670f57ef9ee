/- Renewals: check, checkTime, checkCosts, greatest, divided, cost. -/
import Derived.Test.YtcelbgleajpenaaGreatDoorM20
import Derived.Test.YtcelbgleajpenaaGreatDoorX1
import Derived.Test.YtcelbgleajpenaaGreatDoorX2
import Derived.Test.YtcelbgleajpenaaGreatDoorA15
import Derived.Test.YtcelbgleajpenaaGreatDoorA18
import Derived.Test.YtcelbgleajpenaaGreatDoorV2z
import Derived.Test.YtcelbgleajpenaaGreatDoorA12
import Derived.Test.YtcelbgleajpenaaGreatDoorRows
import Derived.WalkKit
import Derived.WalkSpells
import Derived.WalkLawsBesides
import Derived.Test.YtcelbgleajpenaaGreatDoorA1
import Derived.Test.YtcelbgleajpenaaGreatDoorS0
import Derived.Test.YtcelbgleajpenaaGreatDoorA14
import Derived.Test.YtcelbgleajpenaaGreatDoorA16
import Derived.Test.YtcelbgleajpenaaGreatDoorBI
import Derived.Test.YtcelbgleajpenaaGreatDoorA17
import Derived.Laws.CopyOwn
import Derived.Test.YtcelbgleajpenaaGreatDoorBG
import Derived.Test.YtcelbgleajpenaaGreatDoorB46
import Derived.Test.YtcelbgleajpenaaGreatDoorM80
namespace Go.Proofs.YtcelbgleajpenaaGreatDoor
open Go.RowKit Go.Sort Go.Shelf

def fill (f : Nat → Rat) (N k : Nat) : List Rat := (List.range N).map fun i => if i < k then f i else 0
theorem fill_length (f : Nat → Rat) (N k : Nat) : (fill f N k).length = N := by simp [fill]
theorem fill_zero (f : Nat → Rat) (N : Nat) : List.replicate N 0 = fill f N 0 := by
 apply List.ext_getElem?
 intro i
 unfold fill
 by_cases h : i < N <;> simp [h]
theorem fill_get {f : Nat → Rat} {N k i : Nat} (h : i < k) (hN : i < N) : (fill f N k)[i]! = f i := by simp [fill, h, hN]
theorem fill_set (f : Nat → Rat) (N k : Nat) : (fill f N k).set k (f k) = fill f N (k + 1) := by
 apply List.ext_getElem?
 intro i
 unfold fill
 rw [List.getElem?_set]
 by_cases h : k = i
 ·subst h
  by_cases hk : k < N <;> simp [hk]
 ·by_cases hi : i < N
  ·have e : (i < k + 1) = (i < k) := by apply propext; omega
   simp [h, hi, e]
  ·simp [h, hi]
def row (f : Nat → Rat) (N : Nat) : List Rat := fill f N N
theorem row_length (f : Nat → Rat) (N : Nat) : (row f N).length = N := fill_length _ _ _
theorem row_get {f : Nat → Rat} {N i : Nat} (h : i < N) : (row f N)[i]! = f i := fill_get h h
theorem make_ratios (k : Int) (h0 : 0 ≤ k) (h1 : k ≤ 1099511627776) (w : World) :
  (Instr.makeSlice 42 (.int .i64 k) (.int .i64 k)).run Tryz.prog w = .ok (.slice (some ⟨w.heap.size, 0, none⟩) k.toNat k.toNat) (w.alloc (.cells (tcells (List.replicate k.toNat zTri)).toArray 37)) := by
 obtain ⟨i, hi, hz0, hz1, hz2⟩ := info_parts Tryz.infoR
 have e : madeCells (Value.agg zR).cells (k.toNat * i.size) = (tcells (List.replicate k.toNat zTri)).toArray := by
  rw [hz1, zcells]
  have hzc : (Value.agg zR).cells = zR := by simp [Value.cells, zR]
  rw [hzc]
  generalize k.toNat * 3 = n
  apply Array.ext
  ·simp [madeCells]
  ·intro j h1 h2
   simp [madeCells, zR]
 rw [run_make w 42 37 i (.agg zR) Tryz.underlying42 hi hz0 .i64 .i64 k k h0 (Int.le_refl _) (by rw [hz2]; omega) (by omega), e]

theorem BoxIs.rowed {w : World} {b g : Nat} {t : Tri} {q : Rat} {us : List Tri} (h : BoxIs w b t q) (hg : w.heap[g]? = some (.cells (tcells us).toArray 37)) (hne : b ≠ g) (i0 i1 i2 : Nat) (x0 x1 x2 : Value) :
  BoxIs (((w.setCell ⟨g, i0, none⟩ x0).setCell ⟨g, i1, none⟩ x1).setCell ⟨g, i2, none⟩ x2) b t q :=
 ⟨by rw [Below.heap_setCell _ _ _ _ hne, Below.heap_setCell _ _ _ _ hne, Below.heap_setCell _ _ _ _ hne]; exact h.1, h.2.rowed hg _ _ _ _ _ _⟩

end Go.Proofs.YtcelbgleajpenaaGreatDoor
namespace Go.Proofs.YtcelbgleajpenaaGreatDoor
open Go.RowKit Go.Sort Go.Shelf

theorem chain_fin {P : Program} {ops : Array Oper} {Q : Exit → Act → World → Prop} {C : World → Prop} {md : Region.Mode} (N : Nat) (mk : Nat → Bool → Array Bool) (ic : Nat → Nat) (ia m : Nat) (I : Nat → Bool → Act → World → Prop)
  (hr : ∀ c l, c < N → (Region.ready md ops (mk c l)).all (fun i => (i == ic c) || (i == ia && !l)) = true)
  (hne : ∀ c l, c < N → (Region.ready md ops (mk c l)).isEmpty = false)
  (h1 : ∀ c l, c < N → (mk c l).setIfInBounds (ic c) true = mk (c + 1) l) (ha : ∀ c, c < N → (mk c false).setIfInBounds ia true = mk c true)
  (s1 : ∀ c l a w, c < N → I c l a w → wpOp P ops Q (ic c) (fun a' w' => C w' ∧ I (c + 1) l a' w') a w)
  (sa : ∀ c a w, c < N → I c false a w → wpOp P ops Q ia (fun a' w' => C w' ∧ I c true a' w') a w)
  (fin : ∀ l a w, I N l a w → wpHold P md ops Q C (m + (1 - l.toNat)) (mk N l) a w) :
  ∀ n c l, c ≤ N → (N - c) + (1 - l.toNat) = n → ∀ a w, I c l a w → wpHold P md ops Q C (n + m) (mk c l) a w := by
 intro n
 induction n with
 | zero =>
  intro c l hc hn a w h
  obtain rfl : c = N := by omega
  cases l with
  | false => simp at hn
  | true => rw [Nat.zero_add]; exact fin true a w h
 | succ n ih =>
  intro c l hc hn a w h
  rcases Nat.lt_or_ge c N with hlt | hge
  ·rw [show n + 1 + m = (n + m) + 1 by omega]
   have hn0 := hne c l hlt
   refine ⟨fun e' => (by rw [e'] at hn0; cases hn0), fun i hi => ?_⟩
   have hk := List.all_eq_true.1 (hr c l hlt) i hi
   by_cases hi1 : i = ic c
   ·subst hi1
    exact wpOp_mono (fun a' w' h' => ⟨h'.1, by rw [h1 c l hlt]; exact ih (c + 1) l hlt (by omega) a' w' h'.2⟩) (s1 c l a w hlt h)
   ·have hi2 : i = ia ∧ l = false := by
     simp only [Bool.or_eq_true, Bool.and_eq_true, beq_iff_eq, Bool.not_eq_true'] at hk
     rcases hk with hk | hk
     ·exact absurd hk hi1
     ·exact hk
    obtain ⟨rfl, rfl⟩ := hi2
    exact wpOp_mono (fun a' w' h' => ⟨h'.1, by rw [ha c hlt]; exact ih c true hc (by simp at hn ⊢; omega) a' w' h'.2⟩) (sa c a w hlt h)
  ·obtain rfl : c = N := by omega
   cases l with
   | true => simp at hn
   | false =>
    have : n = 0 := by simp at hn; omega
    subst this
    have := fin false a w h
    rw [show 0 + 1 + m = m + (1 - Bool.toNat false) by simp; omega]
    exact this
end Go.Proofs.YtcelbgleajpenaaGreatDoor
namespace Go.Proofs.YtcelbgleajpenaaGreatDoor
open Go.RowKit Go.Sort Go.Shelf

theorem one_RS' : RS (1 : Rat) 1 := by
 refine ⟨?_, ?_⟩ <;> (show (1 : Int) < Wd.pw 1; decide)
theorem sg_ge {a b : Int} (h : b ≤ a) : 0 ≤ Wd.sg a b ∧ Wd.sg a b ≤ 1 := by
 unfold Wd.sg
 rw [if_neg (by omega)]
 by_cases e : a = b
 ·rw [if_pos e]; exact ⟨by decide, by decide⟩
 ·rw [if_neg e]; exact ⟨by decide, by decide⟩
theorem RS.sub' {a b : Rat} {i j : Nat} (ha : RS a i) (hb : RS b j) : RS (a - b) (i + j + 1) := by
 rw [Rat.sub_eq_add_neg]; exact ha.add hb.neg
theorem RS.div' {a b : Rat} {i j : Nat} (ha : RS a i) (hb : RS b j) (hz : b.num ≠ 0) : RS (a / b) (i + j) := by
 rw [Rat.div_def]; exact ha.mul (hb.inv hz)

end Go.Proofs.YtcelbgleajpenaaGreatDoor
namespace Go.Proofs.YtcelbgleajpenaaGreatDoor
open Go.RowKit Go.Sort Go.Shelf

def cmpv (a b : Rat) : Int := Wd.sg (a.num * b.den) (b.num * a.den)
theorem cmpv_lt {a b : Rat} (h : a < b) : cmpv a b = -1 := by
 have h' := Rat.lt_iff a b |>.1 h
 unfold cmpv Wd.sg
 rw [if_pos h']
theorem cmpv_ge {a b : Rat} (h : b ≤ a) : 0 ≤ cmpv a b ∧ cmpv a b ≤ 1 := by
 have h' := Rat.le_iff b a |>.1 h
 unfold cmpv
 exact sg_ge h'
theorem cmpR_all (va vb : Value) (qa qb : Rat) (w : World) (ha : RatIs w va qa) (hb : RatIs w vb qb) (j : Nat) (ra : RS qa j) (rb : RS qb j) (hj : j ≤ KK) :
  Calls Tryz.prog 83 #[va, vb] w fun e w' => e = .returned (.int .i64 (cmpv qa qb)) ∧ Below w.heap.size w w' :=
 cmpR_any va vb qa qb w ha hb (sm_of ra.1 hj) (sm_of rb.1 hj) (sm_of ra.2 hj) (sm_of rb.2 hj)
theorem pqs_get {l : List (Int × Int)} {t : Nat} (h : t < l.length) : (pqs l)[t]! = pq l[t]! := by simp [pqs, h]
theorem pqs_RS {w : World} {v : Value} {qs : List (Int × Int)} (h : PairsAre w v qs) (t : Nat) (ht : t < (pqs qs).length) : RS (pqs qs)[t]! 1 := by
 rw [pqs_length] at ht
 obtain ⟨_, _, _, _, _, h6, _⟩ := h
 rw [pqs_get ht]
 exact pq_RS (h6 t ht).1 (h6 t ht).2
theorem SumsAt.law_take {w wr : World} {g : Nat} {us : List Tri} {qs : List Rat} (h : SumsAt w wr g us qs) (hc : us.length ≤ 9223372036854775807) {n : Nat} (hn : n ≤ us.length) {ps : List Rat} (hl : ps.length = n) (he : ∀ j, j < n → ps[j]! = qs[j]!) : LawIs wr (.slice (some ⟨g, 0, none⟩) n us.length) ps := by
 obtain ⟨a, c, e, h1, h2, h3⟩ := h.law hc
 have hq : us.length = qs.length := by injection e
 injection e with e1 e2 e3
 subst e3
 refine ⟨_, _, by rw [hl], by omega, hc, fun hp => ?_⟩
 obtain ⟨b, o, ea, hlt, hcs⟩ := h3 (by omega)
 refine ⟨b, o, by rw [e1]; exact ea, hlt, fun j hj => ?_⟩
 obtain ⟨s, a1, a2, n1, c1, n2, c2, k0, k1, k2, r⟩ := hcs j (by omega)
 exact ⟨s, a1, a2, n1, c1, n2, c2, k0, k1, k2, by rw [he j (by omega)]; exact r⟩
end Go.Proofs.YtcelbgleajpenaaGreatDoor
namespace Go.Proofs.YtcelbgleajpenaaGreatDoor
open Go.RowKit Go.Sort Go.Shelf

theorem list_of {α : Type} [Inhabited α] {P : Nat → α → Prop} : ∀ {n : Nat}, (∀ j, j < n → ∃ x, P j x) → ∃ l : List α, l.length = n ∧ ∀ j, j < n → P j l[j]!
 | 0, _ => ⟨[], rfl, fun j hj => absurd hj (Nat.not_lt_zero _)⟩
 | n + 1, h => by
  obtain ⟨l, hl, hp⟩ := list_of (n := n) (fun j hj => h j (by omega))
  obtain ⟨x, hx⟩ := h n (by omega)
  refine ⟨l ++ [x], by simp [hl], fun j hj => ?_⟩
  by_cases e : j < n
  ·have : (l ++ [x])[j]! = l[j]! := by rw [List.getElem!_eq_getElem?_getD, List.getElem!_eq_getElem?_getD, List.getElem?_append_left (by omega)]
   rw [this]; exact hp j e
  ·have e : j = l.length := by omega
   subst e
   have : (l ++ [x])[l.length]! = x := by rw [List.getElem!_eq_getElem?_getD, List.getElem?_append_right (Nat.le_refl _), Nat.sub_self]; rfl
   rw [this, hl]; exact hx
theorem addr_plus (b o j : Nat) : (⟨b, o, none⟩ : Addr).add j = ⟨b, o + j, none⟩ := by
 by_cases hj : j = 0
 ·subst hj; simp [Addr.add]
 ·simp [Addr.add, hj]
theorem run_copy_three {P : Program} (w : World) (dT sT ty elem : TypeId) (g n dCap : Nat) (a : Addr) (sCap : Nat) (cur : Array Value) (t : TypeId) (cs : List Value)
  (hu : P.underlying dT = some (.slice elem)) (hs : (P.info? elem).map (·.size) = some 3) (hg : w.heap[g]? = some (.cells cur t (0, 0))) (hn : cs.length = n * 3)
  (hsrc : ∀ j v, cs[j]? = some v → w.cell? (a.add j) = some v) (hfit : cs.length ≤ cur.size) (h1 : ∀ v ∈ cs, v.oneCell' = true) :
  (Builtin.copy_ #[dT, sT] ty #[.slice (some ⟨g, 0, none⟩) n dCap, .slice (some a) n sCap]).run P w = .ok (goInt n) (w.setRow g (cs ++ cur.toList.drop cs.length).toArray) := by
 have hl := run_loadCells_list (P := P) w a cs hsrc
 have hst := run_storeCells_at P g 0 t cs 0 cur w hg (by simpa using hfit) h1
 rw [hn] at hl
 cases hq : P.info? elem with
 | none => simp [hq] at hs
 | some i =>
  have hi : i.size = 3 := by simpa [hq] using hs
  simp [Builtin.copy_, run_underlying hu, Builtin.lenOf, Builtin.firstCells, sizeOf, typeInfo, hq, hi, hl, hst]
theorem Tryz.size3 : (Tryz.prog.info? 37).map (·.size) = some 3 := by kernel_rfl
theorem setRow_grown (w : World) (g : Nat) (cs : Array Value) : w.grownBy (w.setRow g cs) (some g) :=
 ⟨rfl, rfl, rfl, by simp [World.setRow], fun k hk hne => setRow_other w g k cs (fun e => hne (by rw [e]))⟩
theorem tlen_pos' (qs : List Rat) : ∀ {n}, 0 < n → 0 < tlen qs n
 | 0, h => absurd h (by decide)
 | 1, _ => Nat.one_pos
 | n + 2, _ => by
  unfold tlen
  split
  ·exact tlen_pos' qs (by omega)
  ·omega
theorem copy3_law {w W : World} {g n c : Nat} {a : Option Addr} {qs : List Rat} (own : SumsAt w W g (List.replicate n zTri) (List.replicate n 0)) (hn : 0 < n) (hc : n ≤ 1000000) (h : LawIs W (.slice a n c) qs) (hl : qs.length = n) :
  ∃ W', (Builtin.copy_ #[63, 63] 3 #[.slice (some ⟨g, 0, none⟩) n n, .slice a n c]).run Tryz.prog W = .ok (.int .i64 n) W' ∧ LawIs W' (.slice (some ⟨g, 0, none⟩) n n) qs ∧ Below w.heap.size w W' := by
 obtain ⟨a', c', e, h1, h2, h3⟩ := h
 injection e with e1 e2 e3
 subst e1 e3
 obtain ⟨b, o, rfl, hlt, hcs⟩ := h3 (by omega)
 obtain ⟨us, hul, hus⟩ := list_of (α := Tri) (n := n) (P := fun j t => W.cell? ⟨b, o + j * 3, none⟩ = some (.bool t.s) ∧ W.cell? ⟨b, o + j * 3 + 1, none⟩ = some (.slice t.a1 t.n1 t.c1) ∧ W.cell? ⟨b, o + j * 3 + 2, none⟩ = some (.slice t.a2 t.n2 t.c2) ∧ RatIs W t.val qs[j]!) (fun j hj => by
  obtain ⟨s, a1, a2, n1, c1, n2, c2, k0, k1, k2, r⟩ := hcs j (by omega)
  exact ⟨⟨s, a1, a2, n1, c1, n2, c2⟩, k0, k1, k2, r⟩)
 have hlen : (tcells us).length = n * 3 := by rw [tcells_length, hul]
 have hsz : (tcells (List.replicate n zTri)).toArray.size = n * 3 := by simp [tcells_length]
 have hr := run_copy_three (P := Tryz.prog) W 63 63 3 37 g n n ⟨b, o, none⟩ c _ _ (tcells us) Tryz.underlying63 Tryz.size3 own.row hlen
  (fun j v hv => by
   have hj : j < n * 3 := by
    rcases Nat.lt_or_ge j (n * 3) with h | h
    ·exact h
    ·rw [List.getElem?_eq_none (by rw [hlen]; exact h)] at hv; cases hv
   obtain ⟨q, r, rfl, hr3⟩ : ∃ q r, j = q * 3 + r ∧ r < 3 := ⟨j / 3, j % 3, by omega, by omega⟩
   rw [tcells_get us q r (by omega) hr3] at hv
   obtain ⟨k0, k1, k2, _⟩ := hus q (by omega)
   have ea : ((⟨b, o, none⟩ : Addr).add (q * 3 + r)) = ⟨b, o + q * 3 + r, none⟩ := by rw [addr_plus, Nat.add_assoc]
   rw [ea]
   match r, hr3 with
   | 0, _ => rw [Nat.add_zero, k0]; exact hv
   | 1, _ => rw [k1]; exact hv
   | 2, _ => rw [k2]; exact hv)
  (by rw [hlen, hsz]; exact Nat.le_refl _)
  (fun v hv => by
   obtain ⟨t, _, ht⟩ := List.mem_flatMap.1 hv
   exact tri_one t v ht)
 have hd : ((tcells (List.replicate n zTri)).toArray.toList.drop (tcells us).length) = [] := List.drop_eq_nil_of_le (by rw [hlen]; simp [tcells_length])
 rw [hd, List.append_nil] at hr
 have hb := below_setRow own.bl own.gl (tcells us).toArray
 have hno : ∀ k, (some g : Option Nat) = some k → Wordless W k := fun k e => by
  obtain rfl := Option.some.inj e
  exact sums_wordless own
 have S : SumsAt w (W.setRow g (tcells us).toArray) g us qs := ⟨setRow_heap _ _ _ _ _ _ own.row, by omega, fun j hj => (hus j (by omega)).2.2.2.far (setRow_grown W g _) hno, hb, own.gl⟩
 have L := S.law (by omega)
 rw [hul] at L
 exact ⟨_, hr, L, hb⟩
set_option maxHeartbeats 8000000 in
set_option maxRecDepth 100000 in
set_option linter.unusedSimpArgs false in
theorem trim_any (v : Value) (qs : List Rat) (w : World) (h : LawIs w v qs) (hp : 0 < qs.length) (hc : qs.length ≤ 1000) :
  Calls Tryz.prog 112 #[v] w fun e w' => ∃ v, e = .returned v ∧ LawIs w' v (qs.take (tlen qs qs.length)) ∧ Below w.heap.size w w' := by
 have h' := h
 obtain ⟨a, c, rfl, -⟩ := h'
 obtain ⟨m, hm⟩ : ∃ m, tlen qs qs.length = m := ⟨_, rfl⟩
 have hml : m ≤ qs.length := by rw [← hm]; exact tlen_le qs _
 have hm0 : 0 < m := by rw [← hm]; exact tlen_pos' qs hp
 have HT := hide (trimmedL_any a c qs w h hp)
 rw [hm] at HT ⊢
 have HL := hide (h.take m hml)
 have htl : (qs.take m).length = m := by rw [List.length_take]; omega
 have HTL := hide htl
 have HM := hide (And.intro hm0 (show m ≤ 1000 by omega))
 clear h hp hc hm hml hm0 htl
 go_enter Tryz.func112, Tryz.ntmps112
 go_wp2_with fail
 refine (unhide HT).mono ?_
 rintro e w1 ⟨rfl, hb1⟩
 have qmk := make_tri (m : Int) (by omega) (by have := (unhide HM).2; omega) w1
 have S0 := SumsAt.start w w1 m hb1
 have bA := abelow w1 (.cells (tcells (List.replicate m zTri)).toArray 37)
 have e1 : (m : Int).toNat = m := by omega
 rw [e1] at qmk
 obtain ⟨W2, hW2⟩ : ∃ W, w1.alloc (.cells (tcells (List.replicate m zTri)).toArray 37) = W := ⟨_, rfl⟩
 obtain ⟨g, hg⟩ : ∃ g, w1.heap.size = g := ⟨_, rfl⟩
 rw [hW2, hg] at qmk S0
 rw [hW2] at bA
 obtain ⟨W3, qcp, hL3, hB3⟩ := copy3_law S0 (unhide HM).1 (by have := (unhide HM).2; omega) (((unhide HL).below hb1).below bA) (unhide HTL)
 have HL3 := hide hL3
 have HB3 := hide hB3
 clear hb1 S0 bA hW2 hg hL3 hB3 e1 HT
 go_wp2
 (try go_ret)
 exact ⟨_, rfl, unhide HL3, unhide HB3⟩
end Go.Proofs.YtcelbgleajpenaaGreatDoor
namespace Go.Proofs.YtcelbgleajpenaaGreatDoor
open Go.RowKit Go.Sort Go.Shelf

theorem sign_zero {x : Int} : (x.sign == 0) = decide (x = 0) := by
 by_cases h : x = 0
 ·subst h; rfl
 ·rw [decide_eq_false h, beq_eq_false_iff_ne]
  exact fun e => h (Int.sign_eq_zero_iff_zero.1 e)
theorem tlen_step (qs : List Rat) {n : Nat} (h : 1 < n) : tlen qs n = if qs[n - 1]!.num = 0 then tlen qs (n - 1) else n := by
 obtain ⟨m, rfl⟩ : ∃ m, n = m + 2 := ⟨n - 2, by omega⟩
 rw [tlen]; rfl
theorem ptrs_one (gs : List Nat) : ∀ u ∈ ptrs gs, u.oneCell' = true := by
 intro u hu
 obtain ⟨g, _, rfl⟩ := List.mem_map.1 hu
 rfl
theorem ptrs_are (gs : List Nat) : ∀ u ∈ ptrs gs, isPtr u := by
 intro u hu
 obtain ⟨g, _, rfl⟩ := List.mem_map.1 hu
 trivial
set_option maxHeartbeats 8000000 in
set_option maxRecDepth 100000 in
set_option linter.unusedSimpArgs false in
theorem refTrim_any (v : Value) (qs : List Rat) (w : World) (h : RList w v qs) (hp : 0 < qs.length) (hc : qs.length ≤ 1000) :
  Calls Tryz.prog 73 #[v] w fun e w' => ∃ v, e = .returned v ∧ RList w' v (qs.take (tlen qs qs.length)) ∧ Below w.heap.size w w' := by
 obtain ⟨a, c, rfl, h1, h2, h3⟩ := h
 obtain ⟨b, o, rfl, hblt, hcs⟩ := h3 hp
 obtain ⟨n, hn⟩ : ∃ n, qs.length = n := ⟨_, rfl⟩
 rw [hn] at h1 hcs hp hc ⊢
 obtain ⟨gs, hgl, hgs⟩ := list_of (α := Nat) (n := n) hcs
 obtain ⟨ti, hi, hz0, hz1, hz2⟩ := info_parts Tryz.infoP
 have own1 : (w.alloc (.cells #[] 31)).ownsRow w.heap.size 31 1 (.slice (some ⟨w.heap.size, 0, none⟩) 0 0) 0 [] := World.ownsRow_made w #[] 0 (Nat.le_refl _) (by unfold maxLen; decide) rfl
 have bA := abelow w (.cells #[] 31)
 have no1 : ∀ g, (Value.slice (some ⟨w.heap.size, 0, none⟩) 0 0).ownBlock = some g → Ptrly (w.alloc (.cells #[] 31)) g := fun g e => by
  obtain rfl : w.heap.size = g := Option.some.inj e
  exact ptrly_of (heap_alloc_new w _) (fun u hu => by simp at hu)
 have nw : ∀ j u, (ptrs gs)[j]? = some u → (w.alloc (.cells #[] 31)).cell? ((⟨b, o, none⟩ : Addr).add j) = some u := fun j u hu => by
  have hj : j < n := by
   rcases Nat.lt_or_ge j n with h | h
   ·exact h
   ·rw [List.getElem?_eq_none (by rw [ptrs_length, hgl]; exact h)] at hu; cases hu
  have hk := (hgs j hj).1
  rw [← bA.cell (p := ⟨b, o + j, none⟩) hblt] at hk
  have e : u = .pointer (some ⟨gs[j]!, 0, none⟩) := by
   simp [ptrs, show j < gs.length by omega] at hu
   rw [← hu]
   simp [show j < gs.length by omega]
  rw [e]
  by_cases hj0 : j = 0
  ·subst hj0; simpa [Addr.add] using hk
  ·simpa [Addr.add, hj0] using hk
 have rat1 : ∀ j, j < gs.length → BRz (w.alloc (.cells #[] 31)) gs[j]! 0 qs[j]! := fun j hj => (hgs j (by omega)).2.below bA
 have HI := hide hi
 have HZ := hide hz0
 have HOWN := hide own1
 have HNO := hide no1
 have HNW := hide nw
 have HRA := hide rat1
 have HBA := hide bA
 have HGL := hide hgl
 have HN := hide hn
 have HP := hide hp
 have HC := hide hc
 have HBS : Hid (w.heap.size ≤ (w.alloc (.cells #[] 31)).heap.size) := bA.size
 have HL63 : Hid (0 + n ≤ maxLen) := by show _ ≤ _; unfold maxLen; omega
 have HL8 : Hid ((0 + n) * 8 ≤ 140737488355328) := by show _ ≤ _; omega
 have HPL : Hid ((ptrs gs).length = n * 1) := by show _ = _; rw [ptrs_length, hgl, Nat.mul_one]
 clear h1 h2 h3 hcs hgs hi hz0 own1 no1 nw rat1 bA hgl hn hp hc hblt
 go_enter Tryz.func73, Tryz.ntmps73
 go_wp2_with (at_builtin; go_loud (refine wpList_append_ptr _ rfl _ _ _ rfl w.heap.size 31 ti 8 Tryz.underlying29 (unhide HI) (unhide HZ) hz1 hz2 _ 0 [] rfl (unhide HOWN) (unhide HNO) ⟨b, o, none⟩ n c (ptrs gs) rfl (unhide HPL) (unhide HNW) (ptrs_one gs) (ptrs_are gs) (unhide HP) (unhide HL63) (unhide HL8) (unhide HBS) _ rfl ?_; intro g cap w4 hown4 hgrow hat hlt4 hno4))
 rw [List.nil_append, Nat.zero_add] at hown4
 have hR : RList w4 (.slice (some ⟨g, 0, none⟩) n cap) qs := by
  have hgl := unhide HGL
  rw [← hgl] at hown4 ⊢
  exact rlist_of hown4 (by rw [hgl, unhide HN]) (fun j hj => (unhide HRA j hj).far hgrow (unhide HNO))
 have hB4 : Below w.heap.size w w4 := Below.grown (unhide HBA) hgrow (unhide HBS) (fun k hk => by
  obtain rfl : w.heap.size = k := Option.some.inj hk
  exact Nat.le_refl _)
 have HR := hide hR
 have HB4 := hide hB4
 obtain ⟨a', c', e9, r1, r2, r3⟩ := hR
 injection e9 with e91 e92 e93
 subst e91 e93
 obtain ⟨b9, o9, e94, rlt, rcs⟩ := r3 (by rw [unhide HN]; exact unhide HP)
 injection e94 with e94
 injection e94 with e95 e96
 subst e95 e96
 have HRC := hide rcs
 have hnc : n ≤ cap := by rw [unhide HN] at r1; exact r1
 have HNC := hide hnc
 have HCP := hide r2
 clear hown4 hgrow hat hno4 hB4 r1 r2 r3 rcs hnc e92
 (try simp only [Nat.zero_add])
 go_wp2_with fail
 go_loopw [0] (fun v wr => ∃ (m : Nat), v = .slice (some ⟨g, 0, none⟩) m cap ∧ 0 < m ∧ m ≤ n ∧ tlen qs m = tlen qs n ∧ wr = w4) (fun v _ => match v with | .slice _ m _ => m | _ => 0)
 case atStart => exact ⟨n, rfl, unhide HP, Nat.le_refl _, rfl, rfl⟩
 case round =>
  obtain ⟨m, rfl, hm0, hmn, htl, hw⟩ := hrel
  subst hw
  have hnc := unhide HNC
  have hC := unhide HC
  by_cases hm1 : m = 1
  ·subst hm1
   have HTL : Hid (tlen qs n = 1) := by show _ = _; rw [← htl]; rfl
   have HRT := hide ((show RList wr (.slice (some ⟨g, 0, none⟩) qs.length cap) qs by rw [unhide HN]; exact unhide HR).take (n := 1) (by rw [unhide HN]; exact hmn))
   clear htl hm0 hmn hnc hC
   go_wp2
   (try simp only [Exit.inBlock, Exit.then])
   (try go_wp2)
   go_ret
   exact ⟨_, rfl, by rw [unhide HTL]; exact unhide HRT, unhide HB4⟩
  ·have hm2 : 1 < m := by omega
   have hd : decide ((1 : Int) < (m : Int)) = true := decide_eq_true (by omega)
   obtain ⟨x, k0, kx⟩ := unhide HRC (m - 1) (by rw [unhide HN]; omega)
   rw [Nat.zero_add] at k0
   have HSG := hide (signz_any x 0 qs[m - 1]! wr kx)
   have etl := tlen_step qs hm2
   have esz := sign_zero (x := qs[m - 1]!.num)
   obtain ⟨z, hz⟩ : ∃ z, qs[m - 1]!.num.sign = z := ⟨_, rfl⟩
   rw [hz] at HSG esz
   obtain ⟨m1, hm1'⟩ : ∃ m1, m - 1 = m1 := ⟨_, rfl⟩
   rw [hm1'] at k0 etl esz
   have f1 : IntKind.i64.wrap ((m : Int) - 1) = (m1 : Int) := by rw [IntKind.wrap_i64]; omega
   have f2 : (0 : Int) ≤ (m1 : Int) := by omega
   have f3 : (m1 : Int) < (m : Int) := by omega
   have f4 : (m1 : Int) ≤ (cap : Int) := by omega
   have HM : Hid (0 < m1 ∧ m1 ≤ n ∧ m1 < m) := ⟨by omega, by omega, by omega⟩
   by_cases hq0 : qs[m1]!.num = 0
   ·rw [if_pos hq0] at etl
    rw [decide_eq_true hq0] at esz
    have HTL : Hid (tlen qs m1 = tlen qs n) := by show _ = _; rw [← etl]; exact htl
    clear kx etl htl hz hq0 hm1' hm1 hm0 hmn hnc hC
    go_wp2_with fail
    refine (unhide HSG).mono ?_
    rintro e w5 ⟨rfl, hw⟩
    have hw := hw.symm
    subst hw
    clear HSG
    go_wp2_with fail
    exact ⟨⟨m1, rfl, (unhide HM).1, (unhide HM).2.1, unhide HTL, by first | rfl | trivial⟩, (unhide HM).2.2⟩
   ·rw [if_neg hq0] at etl
    rw [decide_eq_false hq0] at esz
    have HTL : Hid (tlen qs n = m) := by show _ = _; rw [← htl, etl]
    have HRT := hide ((show RList wr (.slice (some ⟨g, 0, none⟩) qs.length cap) qs by rw [unhide HN]; exact unhide HR).take (n := m) (by rw [unhide HN]; exact hmn))
    clear kx etl htl hz hq0 hm1' hm1 hm0 hmn hnc hC
    go_wp2_with fail
    refine (unhide HSG).mono ?_
    rintro e w5 ⟨rfl, hw⟩
    have hw := hw.symm
    subst hw
    clear HSG
    go_wp2
    (try simp only [Exit.inBlock, Exit.then])
    (try go_wp2)
    go_ret
    exact ⟨_, rfl, by rw [unhide HTL]; exact unhide HRT, unhide HB4⟩
end Go.Proofs.YtcelbgleajpenaaGreatDoor
namespace Go.Proofs.YtcelbgleajpenaaGreatDoor
open Go.RowKit Go.Sort Go.Shelf

set_option maxHeartbeats 4000000 in
set_option maxRecDepth 100000 in
set_option linter.unusedSimpArgs false in
theorem refQuot_any (b1 b2 i j : Nat) (qx qy : Rat) (w : World) (x : BRz w b1 0 qx) (y : BRz w b2 0 qy) (rx : RS qx i) (ry : RS qy j) (hij : i + j ≤ 400000) (hy : qy.num ≠ 0) :
  Calls Tryz.prog 74 #[.pointer (some ⟨b1, 0, none⟩), .pointer (some ⟨b2, 0, none⟩)] w (NewsZ w (qx / qy)) := by
 have k := slotR_new w
 have bA := abelow w (.cells #[.bool false, .slice none 0 0, .bool false, .slice none 0 0] 86)
 obtain ⟨W0, hW0⟩ : ∃ W, w.alloc (.cells #[.bool false, .slice none 0 0, .bool false, .slice none 0 0] 86) = W := ⟨_, rfl⟩
 obtain ⟨g, hg⟩ : ∃ g, w.heap.size = g := ⟨_, rfl⟩
 rw [hW0, hg] at k
 rw [hW0] at bA
 have HS := hide (rquoz_any g 0 b1 0 b2 0 i j qx qy W0 k (x.below bA) (y.below bA) rx ry hij hy)
 have HB := hide bA
 have HG := hide hg
 have HSG := hide (signz_any b2 0 qy w y)
 have hs : (qy.num.sign == 0) = false := by
  rw [beq_eq_false_iff_ne]
  exact fun e => hy (Int.sign_eq_zero_iff_zero.1 e)
 have HW0 := hide hW0
 clear k bA x y rx ry hij hW0 hg hy
 go_enter Tryz.func74, Tryz.ntmps74
 go_wp2_with fail
 refine (unhide HSG).mono ?_
 rintro e w1 ⟨rfl, hw⟩
 have hw := hw.symm
 subst hw
 have hW0 := unhide HW0
 have hg := unhide HG
 go_wp2_with fail
 clear hW0 hg
 refine (unhide HS).mono ?_
 rintro e w1 ⟨rfl, hr, hf⟩
 have HR := hide hr
 have HF := hide (hf w (unhide HB) (Nat.le_of_eq (unhide HG)))
 clear hr hf HS
 go_wp2
 go_ret
 exact ⟨g, rfl, Nat.le_of_eq (unhide HG), (unhide HR).z, unhide HF⟩
end Go.Proofs.YtcelbgleajpenaaGreatDoor
namespace Go.Proofs.YtcelbgleajpenaaGreatDoor
open Go.RowKit Go.Sort Go.Shelf

end Go.Proofs.YtcelbgleajpenaaGreatDoor
/- chance.raised, Moment and Over. -/
namespace Go.Proofs.YtcelbgleajpenaaGreatDoor
open Go.RowKit Go.Sort Go.Shelf

theorem errV_zero : errV 0 = .nilIface := rfl
theorem errV_not {k : Int} (h : k ≠ 0) : errV k = .iface 27 (.int .i64 k) := by unfold errV; rw [if_neg h]

end Go.Proofs.YtcelbgleajpenaaGreatDoor
namespace Go.Proofs.YtcelbgleajpenaaGreatDoor
open Go.RowKit Go.Sort Go.Shelf

theorem RS_int {x : Int} (h : I64 x) : RS (x : Rat) 1 := by
 refine ⟨?_, ?_⟩
 ·rw [Rat.num_intCast, Wd.pw_one]; have := h.1; have := h.2; omega
 ·rw [Rat.den_intCast]; decide
end Go.Proofs.YtcelbgleajpenaaGreatDoor
namespace Go.Proofs.YtcelbgleajpenaaGreatDoor
open Go.RowKit Go.Sort Go.Shelf

def xq (qs : List Rat) (i : Nat) : Rat := qs[i]!
theorem xq_out {qs : List Rat} {i : Nat} (h : qs.length ≤ i) : xq qs i = 0 := by
 show qs[i]! = 0
 rw [List.getElem!_eq_getElem?_getD, List.getElem?_eq_none h]; rfl
theorem qsum_xq (qs : List Rat) : ∀ k, qsum qs k = Bth.ps (xq qs) k
 | 0 => rfl
 | k + 1 => by show qsum qs k + qs[k]! = _; rw [qsum_xq qs k]; rfl
theorem tlen_zero' (qs : List Rat) : ∀ n j, tlen qs n ≤ j → j < n → qs[j]! = 0
 | 0, _, _, h => absurd h (Nat.not_lt_zero _)
 | 1, j, h, h' => by unfold tlen at h; omega
 | n + 2, j, h, h' => by
  unfold tlen at h
  split at h
  ·rename_i hz
   rcases Nat.lt_or_ge j (n + 1) with h1 | h1
   ·exact tlen_zero' qs (n + 1) j h h1
   ·obtain rfl : j = n + 1 := by omega
    exact Rat.num_eq_zero.1 hz
  ·omega
def rnc (qs : List Rat) : Int := if chk qs = 0 then (if 0 < (xq qs 0).num then 11 else 0) else chk qs
theorem rnc_zero {qs : List Rat} (h : rnc qs = 0) : chk qs = 0 ∧ xq qs 0 = 0 := by
 unfold rnc at h
 by_cases hc : chk qs = 0
 ·rw [if_pos hc] at h
  refine ⟨hc, ?_⟩
  by_cases h0 : 0 < (xq qs 0).num
  ·rw [if_pos h0] at h; exact absurd h (by decide)
  ·obtain ⟨a, _, c, _⟩ := chk_zero hc
   have := c 0 a
   exact Rat.num_eq_zero.1 (by show (qs[0]!).num = 0; have h0' : ¬ 0 < (qs[0]!).num := h0; omega)
 ·rw [if_neg hc] at h; exact absurd h hc
def gst (qs : List Rat) : Nat := tlen qs qs.length - 1
theorem rnc_age {qs : List Rat} (h : rnc qs = 0) : Rnw.Age (xq qs) (gst qs) ∧ gst qs + 1 = tlen qs qs.length ∧ gst qs + 1 ≤ qs.length ∧ qs.length ≤ 101 := by
 obtain ⟨hc, h0⟩ := rnc_zero h
 obtain ⟨a, b, c, d⟩ := chk_zero hc
 have t1 := tlen_pos' qs a
 have t2 := tlen_le qs qs.length
 have e : gst qs + 1 = tlen qs qs.length := by unfold gst; omega
 have hout : ∀ j, gst qs < j → xq qs j = 0 := fun j hj => by
  rcases Nat.lt_or_ge j qs.length with h1 | h1
  ·exact tlen_zero' qs qs.length j (by omega) h1
  ·exact xq_out h1
 refine ⟨⟨h0, fun j => ?_, ?_, hout⟩, e, by omega, b⟩
 ·rcases Nat.lt_or_ge j qs.length with h1 | h1
  ·exact Rat.num_nonneg.1 (c j h1)
  ·rw [xq_out h1]; exact Rat.le_refl
 ·rw [← Rnw.ps_cut (xq qs) (gst qs + 1) qs.length (by omega) (fun j p _ => hout j (by omega)), ← qsum_xq]; exact d
theorem LawIs.parts {w : World} {a : Option Addr} {n c : Nat} {qs : List Rat} (h : LawIs w (.slice a n c) qs) : qs.length = n ∧ n ≤ c ∧ c ≤ 9223372036854775807 ∧ (0 < n → ∃ b o, a = some ⟨b, o, none⟩ ∧ b < w.heap.size ∧ ∀ j, j < n → ∃ t : Tri, w.cell? ⟨b, o + j * 3, none⟩ = some (.bool t.s) ∧ w.cell? ⟨b, o + j * 3 + 1, none⟩ = some (.slice t.a1 t.n1 t.c1) ∧ w.cell? ⟨b, o + j * 3 + 2, none⟩ = some (.slice t.a2 t.n2 t.c2) ∧ RatIs w t.val (xq qs j)) := by
 have h' := h
 obtain ⟨a', c', e, h1, h2, h3⟩ := h
 injection e with e1 e2 e3
 subst e1; subst e3; subst e2
 refine ⟨rfl, h1, h2, fun hp => ?_⟩
 obtain ⟨b, o, ea, hlt, hc⟩ := h3 hp
 refine ⟨b, o, ea, hlt, fun j hj => ?_⟩
 obtain ⟨s, a1, a2, n1, c1, n2, c2, k0, k1, k2, r⟩ := hc j hj
 exact ⟨⟨s, a1, a2, n1, c1, n2, c2⟩, k0, k1, k2, r⟩
end Go.Proofs.YtcelbgleajpenaaGreatDoor
namespace Go.Proofs.YtcelbgleajpenaaGreatDoor
open Go.RowKit Go.Sort Go.Shelf

set_option maxHeartbeats 16000000 in
set_option maxRecDepth 100000 in
set_option linter.unusedSimpArgs false in
theorem rcheck_any (v : Value) (qs : List Rat) (J : Nat) (w : World) (h : LawIs w v qs) (hq : ∀ j, j < qs.length → RS qs[j]! J) (hJ : (qs.length * (J + 1) + 1 + J) + (qs.length * (J + 1) + 1 + J) + 1 ≤ KK) :
  Calls Tryz.prog 76 #[v] w fun e w' => e = .returned (errV (rnc qs)) ∧ Below w.heap.size w w' := by
 have HC := hide (check_any v qs J w h hq hJ)
 have h' := h
 obtain ⟨a, c, rfl, -⟩ := h'
 by_cases hc : chk qs = 0
 ·have hr : rnc qs = if 0 < (xq qs 0).num then 11 else 0 := by unfold rnc; rw [if_pos hc]
  rw [hr]
  rw [hc, errV_zero] at HC
  obtain ⟨p1, p2, _, _⟩ := chk_zero hc
  obtain ⟨_, hc1, hc2, h3⟩ := h.parts
  obtain ⟨b, o, rfl, hlt, hcs⟩ := h3 p1
  obtain ⟨t, k0, k1, k2, r⟩ := hcs 0 p1
  rw [Nat.zero_mul, Nat.add_zero] at k0 k1 k2
  obtain ⟨n, hn⟩ : ∃ n, qs.length = n := ⟨_, rfl⟩
  rw [hn] at HC p1 p2 hc1 ⊢
  have HK : Hid (∀ W, Below w.heap.size w W → W.cell? ⟨b, o, none⟩ = some (.bool t.s) ∧ W.cell? ⟨b, o + 1, none⟩ = some (.slice t.a1 t.n1 t.c1) ∧ W.cell? ⟨b, o + 2, none⟩ = some (.slice t.a2 t.n2 t.c2)) := fun W hW => ⟨by rw [hW.cell (p := ⟨b, o, none⟩) hlt]; exact k0, by rw [hW.cell (p := ⟨b, o + 1, none⟩) hlt]; exact k1, by rw [hW.cell (p := ⟨b, o + 2, none⟩) hlt]; exact k2⟩
  have HSG : Hid (∀ W, Below w.heap.size w W → Calls Tryz.prog 103 #[.agg #[.bool t.s, .slice t.a1 t.n1 t.c1, .slice t.a2 t.n2 t.c2]] W fun e w' => e = .returned (.int .i64 (xq qs 0).num.sign) ∧ Below W.heap.size W w') := fun W hW => sign_any t.val (xq qs 0) W (r.below hW)
  obtain ⟨q, hq'⟩ : ∃ q, xq qs 0 = q := ⟨_, rfl⟩
  rw [hq'] at HSG ⊢
  have i0 : (0 : Int) < (n : Int) := by omega
  clear h hq hJ hr hc hcs r h3 hn hq' hlt k0 k1 k2
  by_cases hneg : 0 < q.num
  ·rw [if_pos hneg]
   have hsn : q.num.sign = 1 := Int.sign_eq_one_of_pos hneg
   rw [hsn] at HSG
   clear hneg hsn
   go_enter Tryz.func76, Tryz.ntmps76
   go_wp2_with fail
   refine (unhide HC).mono ?_
   rintro e w1 ⟨rfl, hb1⟩
   have HS1 := hide (unhide HSG w1 hb1)
   have ⟨k0, k1, k2⟩ := unhide HK w1 hb1
   have HB1 := hide hb1
   clear hb1 HC HSG HK
   go_wp2_with fail
   refine (unhide HS1).mono ?_
   rintro e w2 ⟨rfl, hb2⟩
   have HB2 := hide (below_step (unhide HB1) hb2)
   clear hb2 k0 k1 k2
   go_wp2
   go_ret
   exact ⟨rfl, unhide HB2⟩
  ·rw [if_neg hneg]
   have bd := sign_bd q.num
   have hsn : q.num.sign ≤ 0 := by
    rcases Int.lt_trichotomy q.num 0 with h | h | h
    ·rw [Int.sign_eq_neg_one_of_neg h]; decide
    ·rw [h]; decide
    ·omega
   obtain ⟨bda, bdb⟩ := bd
   generalize q.num.sign = x at *
   have hd : decide (0 < x) = false := decide_eq_false (by omega)
   clear hneg bda bdb hsn
   go_enter Tryz.func76, Tryz.ntmps76
   go_wp2_with fail
   refine (unhide HC).mono ?_
   rintro e w1 ⟨rfl, hb1⟩
   have HS1 := hide (unhide HSG w1 hb1)
   have ⟨k0, k1, k2⟩ := unhide HK w1 hb1
   have HB1 := hide hb1
   clear hb1 HC HSG HK
   go_wp2_with fail
   refine (unhide HS1).mono ?_
   rintro e w2 ⟨rfl, hb2⟩
   have HB2 := hide (below_step (unhide HB1) hb2)
   clear hb2 k0 k1 k2
   go_wp2
   go_ret
   exact ⟨rfl, unhide HB2⟩
 ·have hr : rnc qs = chk qs := by unfold rnc; rw [if_neg hc]
  rw [hr]
  rw [errV_not hc] at HC ⊢
  generalize chk qs = k at *
  clear h hq hJ hr hc
  generalize qs.length = n at *
  go_enter Tryz.func76, Tryz.ntmps76
  go_wp2_with fail
  refine (unhide HC).mono ?_
  rintro e w1 ⟨rfl, hb1⟩
  go_wp2
  go_ret
  exact ⟨rfl, hb1⟩

set_option maxHeartbeats 16000000 in
set_option maxRecDepth 100000 in
set_option linter.unusedSimpArgs false in
theorem greatest_any (v : Value) (qs : List Rat) (w : World) (h : LawIs w v qs) (hp : 0 < qs.length) (hl : qs.length ≤ 1000) :
  Calls Tryz.prog 78 #[v] w fun e w' => e = .returned (.int .i64 (gst qs : Int)) ∧ Below w.heap.size w w' := by
 have HT := hide (trim_any v qs w h hp hl)
 obtain ⟨a, c, rfl, -⟩ := h
 have t1 := tlen_pos' qs hp
 have t2 := tlen_le qs qs.length
 have htl : (qs.take (tlen qs qs.length)).length = tlen qs qs.length := by rw [List.length_take]; omega
 have HTL := hide htl
 have e : (gst qs : Int) = (tlen qs qs.length : Int) - 1 := by unfold gst; omega
 rw [e]
 have HM := hide (And.intro t1 (show tlen qs qs.length ≤ 1000 by omega))
 generalize tlen qs qs.length = m at *
 clear hp hl t2 htl e
 generalize qs.length = n at *
 go_enter Tryz.func78, Tryz.ntmps78
 go_wp2_with fail
 refine (unhide HT).mono ?_
 rintro e w1 ⟨v1, rfl, hv, hb1⟩
 obtain ⟨a1, c1, rfl, -⟩ := hv
 rw [unhide HTL]
 obtain ⟨m1, m2⟩ := unhide HM
 have HB := hide hb1
 clear HT HTL HM hb1
 go_wp2
 go_ret
 exact ⟨by congr 2, unhide HB⟩

set_option maxHeartbeats 4000000 in
set_option maxRecDepth 100000 in
set_option linter.unusedSimpArgs false in
theorem rdivided_any (va vb : Value) (qa qb : Rat) (w : World) (ha : RatIs w va qa) (hb : RatIs w vb qb) (J : Nat) (hqa : RS qa J) (hqb : RS qb J) (hJ : J + J + 1 ≤ KK) (hz : qb.num ≠ 0) :
  Calls Tryz.prog 80 #[va, vb] w fun e w' => ∃ v, e = .returned v ∧ RatIs w' v (qa / qb) ∧ Below w.heap.size w w' := by
 obtain ⟨ta, rfl, ha'⟩ := tri_of ha
 obtain ⟨tb, rfl, hb'⟩ := tri_of hb
 have bA := below_step (below_step (alloc_below w (.cells #[.bool ta.s, .slice ta.a1 ta.n1 ta.c1, .slice ta.a2 ta.n2 ta.c2] 37)) (alloc_below _ (.cells #[.bool tb.s, .slice tb.a1 tb.n1 tb.c1, .slice tb.a2 tb.n2 tb.c2] 37))) (alloc_below _ (.cells #[.bool false, .slice none 0 0, .slice none 0 0] 37))
 have HDV := hide (divR_any ta.val tb.val qa qb _ (ha'.below bA) (hb'.below bA) J hqa hqb hJ hz)
 have HB_0 := hide bA
 have HX_b4_0 := hide (BoxIs.new (w := (w.alloc (.cells #[.bool ta.s, .slice ta.a1 ta.n1 ta.c1, .slice ta.a2 ta.n2 ta.c2] 37)).alloc (.cells #[.bool tb.s, .slice tb.a1 tb.n1 tb.c1, .slice tb.a2 tb.n2 tb.c2] 37)) (t := zTri) (q := 0) (rat_zero _))
 obtain ⟨W0, hW0⟩ : ∃ W, ((w.alloc (.cells #[.bool ta.s, .slice ta.a1 ta.n1 ta.c1, .slice ta.a2 ta.n2 ta.c2] 37)).alloc (.cells #[.bool tb.s, .slice tb.a1 tb.n1 tb.c1, .slice tb.a2 tb.n2 tb.c2] 37)).alloc (.cells #[.bool false, .slice none 0 0, .slice none 0 0] 37) = W := ⟨_, rfl⟩
 have e5 : ((w.alloc (.cells #[.bool ta.s, .slice ta.a1 ta.n1 ta.c1, .slice ta.a2 ta.n2 ta.c2] 37)).alloc (.cells #[.bool tb.s, .slice tb.a1 tb.n1 tb.c1, .slice tb.a2 tb.n2 tb.c2] 37)).heap.size = w.heap.size + 1 + 1 := by rw [alloc_size, alloc_size]
 rw [show ((w.alloc (.cells #[.bool ta.s, .slice ta.a1 ta.n1 ta.c1, .slice ta.a2 ta.n2 ta.c2] 37)).alloc (.cells #[.bool tb.s, .slice tb.a1 tb.n1 tb.c1, .slice tb.a2 tb.n2 tb.c2] 37)).alloc (.cells #[.bool zTri.s, .slice zTri.a1 zTri.n1 zTri.c1, .slice zTri.a2 zTri.n2 zTri.c2] 37) = W0 from hW0, e5] at HX_b4_0
 rw [hW0] at HB_0 HDV
 have HWE := hide hW0
 clear e5 ha hb ha' hb' hW0 bA
 simp only [Tri.val]
 generalize qa / qb = q at *
 go_enter Tryz.func80, Tryz.ntmps80
 go_wp2_with fail
 rw [unhide HWE]
 clear HWE
 obtain ⟨b4, hb4⟩ : ∃ b, w.heap.size + 1 + 1 = b := ⟨_, rfl⟩
 have HG_b4 : Hid (w.heap.size ≤ b4) := show _ ≤ _ by omega
 rw [hb4] at HX_b4_0 ⊢
 clear hb4
 refine (unhide HDV).mono ?_
 rintro e w_1 ⟨v4, rfl, hv4, hbx⟩
 obtain ⟨t5, rfl, hr_1⟩ := tri_of hv4
 simp only [Tri.val]
 have HL_b4_b5 := hide (Nat.lt_of_lt_of_le (unhide HX_b4_0).lt hbx.size)
 have HG_b5 := hide (below_step (unhide HB_0) hbx).size
 have hb_1 := below_step hbx (alloc_below w_1 (.cells #[.bool t5.s, .slice t5.a1 t5.n1 t5.c1, .slice t5.a2 t5.n2 t5.c2] 37))
 have HB_2 := hide (below_step (unhide HB_0) hb_1)
 have HX_b4_2 := hide ((unhide HX_b4_0).keep hb_1)
 clear HB_0 HX_b4_0
 have HX_b5_1 := hide (BoxIs.new hr_1)
 obtain ⟨Wb5, hW_1⟩ : ∃ W, w_1.alloc (.cells #[.bool t5.s, .slice t5.a1 t5.n1 t5.c1, .slice t5.a2 t5.n2 t5.c2] 37) = W := ⟨_, rfl⟩
 obtain ⟨b5, hc_1⟩ : ∃ b, w_1.heap.size = b := ⟨_, rfl⟩
 rw [hW_1] at HB_2 HX_b4_2 HX_b5_1
 rw [hc_1] at HX_b5_1 HL_b4_b5 HG_b5
 clear hv4 hr_1 hbx hb_1
 have ⟨l0, l1, l2⟩ := (unhide HX_b4_2).free
 have ⟨y0, y1, y2⟩ := (unhide HX_b4_2).cells _ (Below.refl _ _)
 have ⟨y3, y4, y5⟩ := (unhide HX_b5_1).cells _ (Below.refl _ _)
 have FIN := hide ((unhide HX_b4_2).set (unhide HX_b5_1).2)
 have FB := hide ((((unhide HB_2).setCell (p := ⟨b4, 0, none⟩) (unhide HG_b4) (.bool t5.s)).setCell (p := ⟨b4, 1, none⟩) (unhide HG_b4) (.slice t5.a1 t5.n1 t5.c1)).setCell (p := ⟨b4, 2, none⟩) (unhide HG_b4) (.slice t5.a2 t5.n2 t5.c2))
 obtain ⟨Wf, hWf⟩ : ∃ W, ((Wb5.setCell ⟨b4, 0, none⟩ (.bool t5.s)).setCell ⟨b4, 1, none⟩ (.slice t5.a1 t5.n1 t5.c1)).setCell ⟨b4, 2, none⟩ (.slice t5.a2 t5.n2 t5.c2) = W := ⟨_, rfl⟩
 rw [hWf] at FIN FB
 have ⟨x0, x1, x2⟩ := (unhide FIN).cells _ (Below.refl _ _)
 go_wp2
 exact bodyPost_ret (v := .agg #[.bool t5.s, .slice t5.a1 t5.n1 t5.c1, .slice t5.a2 t5.n2 t5.c2]) (by simp [results, Tryz.results80, go_sem, x0, x1, x2]) rfl ⟨_, rfl, (unhide FIN).2, unhide FB⟩
end Go.Proofs.YtcelbgleajpenaaGreatDoor
