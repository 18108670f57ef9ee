/- Renewals: what is taken from elsewhere; the law of ages in a row of fractions. -/
import Derived.Test.YtpopcfclpemlaaaDoorM80
import Derived.Test.YtpopcfclpemlaaaDoorWB
import Derived.Test.YtpopcfclpemlaaaDoorT10
import Derived.Laws.CopyOwn
import Derived.Test.YtpopcfclpemlaaaDoorV2
namespace Go.Proofs.YtpopcfclpemlaaaDoor
open Go.RowKit Go.Sort Go.Shelf

/-- A law's cells, by its length. -/
theorem LawIs.open {w : World} {l : Sl} {qs : List Rat} {n : Nat} (h : LawIs w l.val qs) (hl : qs.length = n) (hp : 0 < n) : ∃ b o, l.a = some ⟨b, o, none⟩ ∧ b < w.heap.size ∧ ∀ j, j < n → ∃ t : Tri, w.cell? ⟨b, o + j * 3, none⟩ = some (.bool t.s) ∧ w.cell? ⟨b, o + j * 3 + 1, none⟩ = some (.slice t.a1 t.n1 t.c1) ∧ w.cell? ⟨b, o + j * 3 + 2, none⟩ = some (.slice t.a2 t.n2 t.c2) ∧ RatIs w t.val qs[j]! := by
  obtain ⟨a, c, e, _, _, h3⟩ := h
  obtain ⟨b, o, ea, hlt, hc⟩ := h3 (by omega)
  have e1 : l.a = a := by injection e
  refine ⟨b, o, by rw [e1, ea], hlt, fun j hj => ?_⟩
  obtain ⟨s, a1, a2, n1, c1, n2, c2, k0, k1, k2, r⟩ := hc j (by omega)
  exact ⟨⟨s, a1, a2, n1, c1, n2, c2⟩, k0, k1, k2, r⟩
theorem KK_is : KK = 1099511627776 := rfl
/-- A fresh row of fractions. -/
def RowPost (w : World) (qs : List Rat) (e : Ending) (w' : World) : Prop := ∃ g n, e = .returned (.slice (some ⟨g, 0, none⟩) n n) ∧ n = qs.length ∧ w.heap.size ≤ g ∧ LawIs w' (.slice (some ⟨g, 0, none⟩) n n) qs ∧ Below w.heap.size w w'
theorem SumsAt.rebase {w w1 wr : World} {g : Nat} {us : List Tri} {qs : List Rat} (h : SumsAt w1 wr g us qs) (hb : Below w.heap.size w w1) : SumsAt w wr g us qs :=
  ⟨h.row, h.len, h.rat, below_step hb h.bl, Nat.le_trans hb.size h.gl⟩
theorem LawIs.cap {w : World} {l : Sl} {qs : List Rat} {n : Nat} (h : LawIs w l.val qs) (e : qs.length = n) : n ≤ l.c ∧ l.c ≤ 9223372036854775807 := by
  obtain ⟨a, c, e', i1, i2, _⟩ := h
  have e1 : l.c = c := by injection e'
  rw [e1]; exact ⟨by omega, i2⟩
theorem row_setq {f g : Nat → Rat} {n j : Nat} {v : Rat} (hj : j < n) (h1 : g j = v) (h2 : ∀ i, i < n → i ≠ j → g i = f i) : (row f n).set j v = row g n := by
  refine row_eq (by rw [List.length_set, row_length]) (fun i hi => ?_)
  rw [List.getElem!_eq_getElem?_getD, List.getElem?_set]
  by_cases e : j = i
  · subst e
    rw [if_pos rfl, if_pos (by rw [row_length]; exact hj)]
    exact h1.symm
  · rw [if_neg e, ← List.getElem!_eq_getElem?_getD, row_get hi]
    exact (h2 i hi (Ne.symm e)).symm
theorem abelow (w : World) (o : Obj) : Below w.heap.size w (w.alloc o) := (Below.refl _ _).alloc (Nat.le_refl _) _
theorem list_of {α : Type} [Inhabited α] {P : Nat → α → Prop} : ∀ {n : Nat}, (∀ j, j < n → ∃ x, P j x) → ∃ l : List α, l.length = n ∧ ∀ j, j < n → P j l[j]!
  | 0, _ => ⟨[], rfl, fun j hj => absurd hj (Nat.not_lt_zero _)⟩
  | n + 1, h => by
    obtain ⟨l, hl, hp⟩ := list_of (n := n) (fun j hj => h j (by omega))
    obtain ⟨x, hx⟩ := h n (by omega)
    refine ⟨l ++ [x], by simp [hl], fun j hj => ?_⟩
    by_cases e : j < n
    · have : (l ++ [x])[j]! = l[j]! := by rw [List.getElem!_eq_getElem?_getD, List.getElem!_eq_getElem?_getD, List.getElem?_append_left (by omega)]
      rw [this]; exact hp j e
    · have e : j = l.length := by omega
      subst e
      have : (l ++ [x])[l.length]! = x := by rw [List.getElem!_eq_getElem?_getD, List.getElem?_append_right (Nat.le_refl _), Nat.sub_self]; rfl
      rw [this, hl]; exact hx
theorem addr_plus (b o j : Nat) : (⟨b, o, none⟩ : Addr).add j = ⟨b, o + j, none⟩ := by
  by_cases hj : j = 0
  · subst hj; simp [Addr.add]
  · simp [Addr.add, hj]
theorem run_copy_three {P : Program} (w : World) (dT sT ty elem : TypeId) (g n dCap : Nat) (a : Addr) (sCap : Nat) (cur : Array Value) (t : TypeId) (cs : List Value)
    (hu : P.underlying dT = some (.slice elem)) (hs : (P.info? elem).map (·.size) = some 3) (hg : w.heap[g]? = some (.cells cur t (0, 0))) (hn : cs.length = n * 3)
    (hsrc : ∀ j v, cs[j]? = some v → w.cell? (a.add j) = some v) (hfit : cs.length ≤ cur.size) (h1 : ∀ v ∈ cs, v.oneCell' = true) :
    (Builtin.copy_ #[dT, sT] ty #[.slice (some ⟨g, 0, none⟩) n dCap, .slice (some a) n sCap]).run P w = .ok (goInt n) (w.setRow g (cs ++ cur.toList.drop cs.length).toArray) := by
  have hl := run_loadCells_list (P := P) w a cs hsrc
  have hst := run_storeCells_at P g 0 t cs 0 cur w hg (by simpa using hfit) h1
  rw [hn] at hl
  cases hq : P.info? elem with
  | none => simp [hq] at hs
  | some i =>
    have hi : i.size = 3 := by simpa [hq] using hs
    simp [Builtin.copy_, run_underlying hu, Builtin.lenOf, Builtin.firstCells, sizeOf, typeInfo, hq, hi, hl, hst]
theorem Tryd.size3 : (Tryd.prog.info? 31).map (·.size) = some 3 := by kernel_rfl
theorem setRow_grown (w : World) (g : Nat) (cs : Array Value) : w.grownBy (w.setRow g cs) (some g) :=
  ⟨rfl, rfl, rfl, by simp [World.setRow], fun k hk hne => setRow_other w g k cs (fun e => hne (by rw [e]))⟩
theorem tlen_pos' (qs : List Rat) : ∀ {n}, 0 < n → 0 < tlen qs n
  | 0, h => absurd h (by decide)
  | 1, _ => Nat.one_pos
  | n + 2, _ => by
    unfold tlen
    split
    · exact tlen_pos' qs (by omega)
    · omega
/-- A law copied into a new row. -/
theorem copy3_law {w W : World} {g n c : Nat} {a : Option Addr} {qs : List Rat} (own : SumsAt w W g (List.replicate n zTri) (List.replicate n 0)) (hn : 0 < n) (hc : n ≤ 1000000) (h : LawIs W (.slice a n c) qs) (hl : qs.length = n) :
    ∃ W', (Builtin.copy_ #[60, 60] 3 #[.slice (some ⟨g, 0, none⟩) n n, .slice a n c]).run Tryd.prog W = .ok (.int .i64 n) W' ∧ LawIs W' (.slice (some ⟨g, 0, none⟩) n n) qs ∧ Below w.heap.size w W' := by
  obtain ⟨a', c', e, h1, h2, h3⟩ := h
  injection e with e1 e2 e3
  subst e1 e3
  obtain ⟨b, o, rfl, hlt, hcs⟩ := h3 (by omega)
  obtain ⟨us, hul, hus⟩ := list_of (α := Tri) (n := n) (P := fun j t => W.cell? ⟨b, o + j * 3, none⟩ = some (.bool t.s) ∧ W.cell? ⟨b, o + j * 3 + 1, none⟩ = some (.slice t.a1 t.n1 t.c1) ∧ W.cell? ⟨b, o + j * 3 + 2, none⟩ = some (.slice t.a2 t.n2 t.c2) ∧ RatIs W t.val qs[j]!) (fun j hj => by
    obtain ⟨s, a1, a2, n1, c1, n2, c2, k0, k1, k2, r⟩ := hcs j (by omega)
    exact ⟨⟨s, a1, a2, n1, c1, n2, c2⟩, k0, k1, k2, r⟩)
  have hlen : (tcells us).length = n * 3 := by rw [tcells_length, hul]
  have hsz : (tcells (List.replicate n zTri)).toArray.size = n * 3 := by simp [tcells_length]
  have hr := run_copy_three (P := Tryd.prog) W 60 60 3 31 g n n ⟨b, o, none⟩ c _ _ (tcells us) Tryd.underlying60 Tryd.size3 own.row hlen
    (fun j v hv => by
      have hj : j < n * 3 := by
        rcases Nat.lt_or_ge j (n * 3) with h | h
        · exact h
        · rw [List.getElem?_eq_none (by rw [hlen]; exact h)] at hv; cases hv
      obtain ⟨q, r, rfl, hr3⟩ : ∃ q r, j = q * 3 + r ∧ r < 3 := ⟨j / 3, j % 3, by omega, by omega⟩
      rw [tcells_get us q r (by omega) hr3] at hv
      obtain ⟨k0, k1, k2, _⟩ := hus q (by omega)
      have ea : ((⟨b, o, none⟩ : Addr).add (q * 3 + r)) = ⟨b, o + q * 3 + r, none⟩ := by rw [addr_plus, Nat.add_assoc]
      rw [ea]
      match r, hr3 with
      | 0, _ => rw [Nat.add_zero, k0]; exact hv
      | 1, _ => rw [k1]; exact hv
      | 2, _ => rw [k2]; exact hv)
    (by rw [hlen, hsz]; exact Nat.le_refl _)
    (fun v hv => by
      obtain ⟨t, _, ht⟩ := List.mem_flatMap.1 hv
      exact tri_one t v ht)
  have hd : ((tcells (List.replicate n zTri)).toArray.toList.drop (tcells us).length) = [] := List.drop_eq_nil_of_le (by rw [hlen]; simp [tcells_length])
  rw [hd, List.append_nil] at hr
  have hb := below_setRow own.bl own.gl (tcells us).toArray
  have hno : ∀ k, (some g : Option Nat) = some k → Wordless W k := fun k e => by
    obtain rfl := Option.some.inj e
    exact sums_wordless own
  have S : SumsAt w (W.setRow g (tcells us).toArray) g us qs := ⟨setRow_heap _ _ _ _ _ _ own.row, by omega, fun j hj => (hus j (by omega)).2.2.2.far (setRow_grown W g _) hno, hb, own.gl⟩
  have L := S.law (by omega)
  rw [hul] at L
  exact ⟨_, hr, L, hb⟩
set_option maxHeartbeats 8000000 in
set_option maxRecDepth 100000 in
set_option linter.unusedSimpArgs false in
theorem trim_any (v : Value) (qs : List Rat) (w : World) (h : LawIs w v qs) (hp : 0 < qs.length) (hc : qs.length ≤ 1000) :
    Calls Tryd.prog 89 #[v] w fun e w' => ∃ v, e = .returned v ∧ LawIs w' v (qs.take (tlen qs qs.length)) ∧ Below w.heap.size w w' := by
  have h' := h
  obtain ⟨a, c, rfl, -⟩ := h'
  obtain ⟨m, hm⟩ : ∃ m, tlen qs qs.length = m := ⟨_, rfl⟩
  have hml : m ≤ qs.length := by rw [← hm]; exact tlen_le qs _
  have hm0 : 0 < m := by rw [← hm]; exact tlen_pos' qs hp
  have HT := hide (trimmedL_any a c qs w h hp)
  rw [hm] at HT ⊢
  have HL := hide (h.take m hml)
  have htl : (qs.take m).length = m := by rw [List.length_take]; omega
  have HTL := hide htl
  have HM := hide (And.intro hm0 (show m ≤ 1000 by omega))
  clear h hp hc hm hml hm0 htl
  go_enter Tryd.func89, Tryd.ntmps89
  go_wp2_with fail
  refine (unhide HT).mono ?_
  rintro e w1 ⟨rfl, hb1⟩
  have qmk := make_tri (m : Int) (by omega) (by have := (unhide HM).2; omega) w1
  have S0 := SumsAt.start w w1 m hb1
  have bA := abelow w1 (.cells (tcells (List.replicate m zTri)).toArray 31)
  have e1 : (m : Int).toNat = m := by omega
  rw [e1] at qmk
  obtain ⟨W2, hW2⟩ : ∃ W, w1.alloc (.cells (tcells (List.replicate m zTri)).toArray 31) = W := ⟨_, rfl⟩
  obtain ⟨g, hg⟩ : ∃ g, w1.heap.size = g := ⟨_, rfl⟩
  rw [hW2, hg] at qmk S0
  rw [hW2] at bA
  obtain ⟨W3, qcp, hL3, hB3⟩ := copy3_law S0 (unhide HM).1 (by have := (unhide HM).2; omega) (((unhide HL).below hb1).below bA) (unhide HTL)
  have HL3 := hide hL3
  have HB3 := hide hB3
  clear hb1 S0 bA hW2 hg hL3 hB3 e1 HT
  go_wp2
  (try go_ret)
  exact ⟨_, rfl, unhide HL3, unhide HB3⟩
/-- The row's numbers as a function: 0 behind its end. -/
def xq (qs : List Rat) (i : Nat) : Rat := qs[i]!
theorem xq_out {qs : List Rat} {i : Nat} (h : qs.length ≤ i) : xq qs i = 0 := by
  show qs[i]! = 0
  rw [List.getElem!_eq_getElem?_getD, List.getElem?_eq_none h]; rfl
theorem qsum_xq (qs : List Rat) : ∀ k, qsum qs k = Bth.ps (xq qs) k
  | 0 => rfl
  | k + 1 => by show qsum qs k + qs[k]! = _; rw [qsum_xq qs k]; rfl
theorem wsum_ps (qs : List Rat) (F : Nat → Int) : ∀ k, wsum qs F k = Bth.ps (fun j => xq qs j * ((F j : Int) : Rat)) k
  | 0 => rfl
  | k + 1 => by show wsum qs F k + qs[k]! * _ = _; rw [wsum_ps qs F k]; rfl
theorem tlen_zero' (qs : List Rat) : ∀ n j, tlen qs n ≤ j → j < n → qs[j]! = 0
  | 0, _, _, h => absurd h (Nat.not_lt_zero _)
  | 1, j, h, h' => by unfold tlen at h; omega
  | n + 2, j, h, h' => by
    unfold tlen at h
    split at h
    · rename_i hz
      rcases Nat.lt_or_ge j (n + 1) with h1 | h1
      · exact tlen_zero' qs (n + 1) j h h1
      · obtain rfl : j = n + 1 := by omega
        exact Rat.num_eq_zero.1 hz
    · omega
/-- What renew's check says: as Check, and 11 where one may fail at 0. -/
def rnc (qs : List Rat) : Int := if chk qs = 0 then (if 0 < (xq qs 0).num then 11 else 0) else chk qs
theorem rnc_zero {qs : List Rat} (h : rnc qs = 0) : chk qs = 0 ∧ xq qs 0 = 0 := by
  unfold rnc at h
  by_cases hc : chk qs = 0
  · rw [if_pos hc] at h
    refine ⟨hc, ?_⟩
    by_cases h0 : 0 < (xq qs 0).num
    · rw [if_pos h0] at h; exact absurd h (by decide)
    · obtain ⟨a, _, c, _⟩ := chk_zero hc
      have := c 0 a
      exact Rat.num_eq_zero.1 (by show (qs[0]!).num = 0; have h0' : ¬ 0 < (qs[0]!).num := h0; omega)
  · rw [if_neg hc] at h; exact absurd h hc
/-- The greatest age. -/
def gst (qs : List Rat) : Nat := tlen qs qs.length - 1
theorem rnc_age {qs : List Rat} (h : rnc qs = 0) : Rnw.Age (xq qs) (gst qs) ∧ gst qs + 1 = tlen qs qs.length ∧ gst qs + 1 ≤ qs.length ∧ qs.length ≤ 101 := by
  obtain ⟨hc, h0⟩ := rnc_zero h
  obtain ⟨a, b, c, d⟩ := chk_zero hc
  have t1 := tlen_pos' qs a
  have t2 := tlen_le qs qs.length
  have e : gst qs + 1 = tlen qs qs.length := by unfold gst; omega
  have hout : ∀ j, gst qs < j → xq qs j = 0 := fun j hj => by
    rcases Nat.lt_or_ge j qs.length with h1 | h1
    · exact tlen_zero' qs qs.length j (by omega) h1
    · exact xq_out h1
  refine ⟨⟨h0, fun j => ?_, ?_, hout⟩, e, by omega, b⟩
  · rcases Nat.lt_or_ge j qs.length with h1 | h1
    · exact Rat.num_nonneg.1 (c j h1)
    · rw [xq_out h1]; exact Rat.le_refl
  · rw [← Rnw.ps_cut (xq qs) (gst qs + 1) qs.length (by omega) (fun j p _ => hout j (by omega)), ← qsum_xq]; exact d
theorem LawIs.parts {w : World} {a : Option Addr} {n c : Nat} {qs : List Rat} (h : LawIs w (.slice a n c) qs) : qs.length = n ∧ n ≤ c ∧ c ≤ 9223372036854775807 ∧ (0 < n → ∃ b o, a = some ⟨b, o, none⟩ ∧ b < w.heap.size ∧ ∀ j, j < n → ∃ t : Tri, w.cell? ⟨b, o + j * 3, none⟩ = some (.bool t.s) ∧ w.cell? ⟨b, o + j * 3 + 1, none⟩ = some (.slice t.a1 t.n1 t.c1) ∧ w.cell? ⟨b, o + j * 3 + 2, none⟩ = some (.slice t.a2 t.n2 t.c2) ∧ RatIs w t.val (xq qs j)) := by
  have h' := h
  obtain ⟨a', c', e, h1, h2, h3⟩ := h
  injection e with e1 e2 e3
  subst e1; subst e3; subst e2
  refine ⟨rfl, h1, h2, fun hp => ?_⟩
  obtain ⟨b, o, ea, hlt, hc⟩ := h3 hp
  refine ⟨b, o, ea, hlt, fun j hj => ?_⟩
  obtain ⟨s, a1, a2, n1, c1, n2, c2, k0, k1, k2, r⟩ := hc j hj
  exact ⟨⟨s, a1, a2, n1, c1, n2, c2⟩, k0, k1, k2, r⟩
end Go.Proofs.YtpopcfclpemlaaaDoor
/- Renewals: check, checkTime, checkCosts, greatest, divided, cost. -/
namespace Go.Proofs.YtpopcfclpemlaaaDoor
open Go.RowKit Go.Sort Go.Shelf

set_option maxHeartbeats 16000000 in
set_option maxRecDepth 100000 in
set_option linter.unusedSimpArgs false in
theorem rcheck_any (v : Value) (qs : List Rat) (J : Nat) (w : World) (h : LawIs w v qs) (hq : ∀ j, j < qs.length → RS qs[j]! J) (hJ : (qs.length * (J + 1) + 1 + J) + (qs.length * (J + 1) + 1 + J) + 1 ≤ KK) :
    Calls Tryd.prog 61 #[v] w fun e w' => e = .returned (errV (rnc qs)) ∧ Below w.heap.size w w' := by
  have HC := hide (check_any v qs J w h hq hJ)
  have h' := h
  obtain ⟨a, c, rfl, -⟩ := h'
  by_cases hc : chk qs = 0
  · have hr : rnc qs = if 0 < (xq qs 0).num then 11 else 0 := by unfold rnc; rw [if_pos hc]
    rw [hr]
    rw [hc, errV_zero] at HC
    obtain ⟨p1, p2, _, _⟩ := chk_zero hc
    obtain ⟨_, hc1, hc2, h3⟩ := h.parts
    obtain ⟨b, o, rfl, hlt, hcs⟩ := h3 p1
    obtain ⟨t, k0, k1, k2, r⟩ := hcs 0 p1
    rw [Nat.zero_mul, Nat.add_zero] at k0 k1 k2
    obtain ⟨n, hn⟩ : ∃ n, qs.length = n := ⟨_, rfl⟩
    rw [hn] at HC p1 p2 hc1 ⊢
    have HK : Hid (∀ W, Below w.heap.size w W → W.cell? ⟨b, o, none⟩ = some (.bool t.s) ∧ W.cell? ⟨b, o + 1, none⟩ = some (.slice t.a1 t.n1 t.c1) ∧ W.cell? ⟨b, o + 2, none⟩ = some (.slice t.a2 t.n2 t.c2)) := fun W hW => ⟨by rw [hW.cell (p := ⟨b, o, none⟩) hlt]; exact k0, by rw [hW.cell (p := ⟨b, o + 1, none⟩) hlt]; exact k1, by rw [hW.cell (p := ⟨b, o + 2, none⟩) hlt]; exact k2⟩
    have HSG : Hid (∀ W, Below w.heap.size w W → Calls Tryd.prog 19 #[.agg #[.bool t.s, .slice t.a1 t.n1 t.c1, .slice t.a2 t.n2 t.c2]] W fun e w' => e = .returned (.int .i64 (xq qs 0).num.sign) ∧ Below W.heap.size W w') := fun W hW => sign_any t.val (xq qs 0) W (r.below hW)
    obtain ⟨q, hq'⟩ : ∃ q, xq qs 0 = q := ⟨_, rfl⟩
    rw [hq'] at HSG ⊢
    have i0 : (0 : Int) < (n : Int) := by omega
    clear h hq hJ hr hc hcs r h3 hn hq' hlt k0 k1 k2
    by_cases hneg : 0 < q.num
    · rw [if_pos hneg]
      have hsn : q.num.sign = 1 := Int.sign_eq_one_of_pos hneg
      rw [hsn] at HSG
      clear hneg hsn
      go_enter Tryd.func61, Tryd.ntmps61
      go_wp2_with fail
      refine (unhide HC).mono ?_
      rintro e w1 ⟨rfl, hb1⟩
      have HS1 := hide (unhide HSG w1 hb1)
      have ⟨k0, k1, k2⟩ := unhide HK w1 hb1
      have HB1 := hide hb1
      clear hb1 HC HSG HK
      go_wp2_with fail
      refine (unhide HS1).mono ?_
      rintro e w2 ⟨rfl, hb2⟩
      have HB2 := hide (below_step (unhide HB1) hb2)
      clear hb2 k0 k1 k2
      go_wp2
      go_ret
      exact ⟨rfl, unhide HB2⟩
    · rw [if_neg hneg]
      have bd := sign_bd q.num
      have hsn : q.num.sign ≤ 0 := by
        rcases Int.lt_trichotomy q.num 0 with h | h | h
        · rw [Int.sign_eq_neg_one_of_neg h]; decide
        · rw [h]; decide
        · omega
      obtain ⟨bda, bdb⟩ := bd
      generalize q.num.sign = x at *
      have hd : decide (0 < x) = false := decide_eq_false (by omega)
      clear hneg bda bdb hsn
      go_enter Tryd.func61, Tryd.ntmps61
      go_wp2_with fail
      refine (unhide HC).mono ?_
      rintro e w1 ⟨rfl, hb1⟩
      have HS1 := hide (unhide HSG w1 hb1)
      have ⟨k0, k1, k2⟩ := unhide HK w1 hb1
      have HB1 := hide hb1
      clear hb1 HC HSG HK
      go_wp2_with fail
      refine (unhide HS1).mono ?_
      rintro e w2 ⟨rfl, hb2⟩
      have HB2 := hide (below_step (unhide HB1) hb2)
      clear hb2 k0 k1 k2
      go_wp2
      go_ret
      exact ⟨rfl, unhide HB2⟩
  · have hr : rnc qs = chk qs := by unfold rnc; rw [if_neg hc]
    rw [hr]
    rw [errV_not hc] at HC ⊢
    generalize chk qs = k at *
    clear h hq hJ hr hc
    generalize qs.length = n at *
    go_enter Tryd.func61, Tryd.ntmps61
    go_wp2_with fail
    refine (unhide HC).mono ?_
    rintro e w1 ⟨rfl, hb1⟩
    go_wp2
    go_ret
    exact ⟨rfl, hb1⟩

/-- What checkTime says. -/
def rtc (qs : List Rat) (up : Int) : Int := if rnc qs = 0 then (if up < 0 ∨ 100 < up then 2 else 0) else rnc qs
set_option maxHeartbeats 16000000 in
set_option maxRecDepth 100000 in
set_option linter.unusedSimpArgs false in
theorem rtime_any (v : Value) (qs : List Rat) (J : Nat) (up : Int) (w : World) (h : LawIs w v qs) (hq : ∀ j, j < qs.length → RS qs[j]! J) (hJ : (qs.length * (J + 1) + 1 + J) + (qs.length * (J + 1) + 1 + J) + 1 ≤ KK) :
    Calls Tryd.prog 58 #[v, .int .i64 up] w fun e w' => e = .returned (errV (rtc qs up)) ∧ Below w.heap.size w w' := by
  have HC := hide (rcheck_any v qs J w h hq hJ)
  have h' := h
  obtain ⟨a, c, rfl, -⟩ := h'
  by_cases hc : rnc qs = 0
  · have hr : rtc qs up = if up < 0 ∨ 100 < up then 2 else 0 := by unfold rtc; rw [if_pos hc]
    rw [hr]
    rw [hc, errV_zero] at HC
    clear h hq hJ hr hc
    generalize qs.length = n at *
    by_cases h0 : up < 0
    · rw [if_pos (Or.inl h0)]
      go_enter Tryd.func58, Tryd.ntmps58
      go_wp2_with fail
      refine (unhide HC).mono ?_
      rintro e w1 ⟨rfl, hb1⟩
      go_wp2
      go_ret
      exact ⟨rfl, hb1⟩
    · by_cases h1 : 100 < up
      · rw [if_pos (Or.inr h1)]
        go_enter Tryd.func58, Tryd.ntmps58
        go_wp2_with fail
        refine (unhide HC).mono ?_
        rintro e w1 ⟨rfl, hb1⟩
        go_wp2
        go_ret
        exact ⟨rfl, hb1⟩
      · rw [if_neg (fun h => h.elim h0 h1)]
        go_enter Tryd.func58, Tryd.ntmps58
        go_wp2_with fail
        refine (unhide HC).mono ?_
        rintro e w1 ⟨rfl, hb1⟩
        go_wp2
        go_ret
        exact ⟨rfl, hb1⟩
  · have hr : rtc qs up = rnc qs := by unfold rtc; rw [if_neg hc]
    rw [hr]
    rw [errV_not hc] at HC ⊢
    generalize rnc qs = k at *
    clear h hq hJ hr hc
    generalize qs.length = n at *
    go_enter Tryd.func58, Tryd.ntmps58
    go_wp2_with fail
    refine (unhide HC).mono ?_
    rintro e w1 ⟨rfl, hb1⟩
    go_wp2
    go_ret
    exact ⟨rfl, hb1⟩

set_option maxHeartbeats 16000000 in
set_option maxRecDepth 100000 in
set_option linter.unusedSimpArgs false in
theorem greatest_any (v : Value) (qs : List Rat) (w : World) (h : LawIs w v qs) (hp : 0 < qs.length) (hl : qs.length ≤ 1000) :
    Calls Tryd.prog 63 #[v] w fun e w' => e = .returned (.int .i64 (gst qs : Int)) ∧ Below w.heap.size w w' := by
  have HT := hide (trim_any v qs w h hp hl)
  obtain ⟨a, c, rfl, -⟩ := h
  have t1 := tlen_pos' qs hp
  have t2 := tlen_le qs qs.length
  have htl : (qs.take (tlen qs qs.length)).length = tlen qs qs.length := by rw [List.length_take]; omega
  have HTL := hide htl
  have e : (gst qs : Int) = (tlen qs qs.length : Int) - 1 := by unfold gst; omega
  rw [e]
  have HM := hide (And.intro t1 (show tlen qs qs.length ≤ 1000 by omega))
  generalize tlen qs qs.length = m at *
  clear hp hl t2 htl e
  generalize qs.length = n at *
  go_enter Tryd.func63, Tryd.ntmps63
  go_wp2_with fail
  refine (unhide HT).mono ?_
  rintro e w1 ⟨v1, rfl, hv, hb1⟩
  obtain ⟨a1, c1, rfl, -⟩ := hv
  rw [unhide HTL]
  obtain ⟨m1, m2⟩ := unhide HM
  have HB := hide hb1
  clear HT HTL HM hb1
  go_wp2
  go_ret
  exact ⟨by congr 2, unhide HB⟩

set_option maxHeartbeats 4000000 in
set_option maxRecDepth 100000 in
set_option linter.unusedSimpArgs false in
theorem rdivided_any (va vb : Value) (qa qb : Rat) (w : World) (ha : RatIs w va qa) (hb : RatIs w vb qb) (J : Nat) (hqa : RS qa J) (hqb : RS qb J) (hJ : J + J + 1 ≤ KK) (hz : qb.num ≠ 0) :
    Calls Tryd.prog 65 #[va, vb] w fun e w' => ∃ v, e = .returned v ∧ RatIs w' v (qa / qb) ∧ Below w.heap.size w w' := by
  obtain ⟨ta, rfl, ha'⟩ := tri_of ha
  obtain ⟨tb, rfl, hb'⟩ := tri_of hb
  have bA := below_step (below_step (alloc_below w (.cells #[.bool ta.s, .slice ta.a1 ta.n1 ta.c1, .slice ta.a2 ta.n2 ta.c2] 31)) (alloc_below _ (.cells #[.bool tb.s, .slice tb.a1 tb.n1 tb.c1, .slice tb.a2 tb.n2 tb.c2] 31))) (alloc_below _ (.cells #[.bool false, .slice none 0 0, .slice none 0 0] 31))
  have HDV := hide (divR_any ta.val tb.val qa qb _ (ha'.below bA) (hb'.below bA) J hqa hqb hJ hz)
  have HB_0 := hide bA
  have HX_b4_0 := hide (BoxIs.new (w := (w.alloc (.cells #[.bool ta.s, .slice ta.a1 ta.n1 ta.c1, .slice ta.a2 ta.n2 ta.c2] 31)).alloc (.cells #[.bool tb.s, .slice tb.a1 tb.n1 tb.c1, .slice tb.a2 tb.n2 tb.c2] 31)) (t := zTri) (q := 0) (rat_zero _))
  obtain ⟨W0, hW0⟩ : ∃ W, ((w.alloc (.cells #[.bool ta.s, .slice ta.a1 ta.n1 ta.c1, .slice ta.a2 ta.n2 ta.c2] 31)).alloc (.cells #[.bool tb.s, .slice tb.a1 tb.n1 tb.c1, .slice tb.a2 tb.n2 tb.c2] 31)).alloc (.cells #[.bool false, .slice none 0 0, .slice none 0 0] 31) = W := ⟨_, rfl⟩
  have e5 : ((w.alloc (.cells #[.bool ta.s, .slice ta.a1 ta.n1 ta.c1, .slice ta.a2 ta.n2 ta.c2] 31)).alloc (.cells #[.bool tb.s, .slice tb.a1 tb.n1 tb.c1, .slice tb.a2 tb.n2 tb.c2] 31)).heap.size = w.heap.size + 1 + 1 := by rw [alloc_size, alloc_size]
  rw [show ((w.alloc (.cells #[.bool ta.s, .slice ta.a1 ta.n1 ta.c1, .slice ta.a2 ta.n2 ta.c2] 31)).alloc (.cells #[.bool tb.s, .slice tb.a1 tb.n1 tb.c1, .slice tb.a2 tb.n2 tb.c2] 31)).alloc (.cells #[.bool zTri.s, .slice zTri.a1 zTri.n1 zTri.c1, .slice zTri.a2 zTri.n2 zTri.c2] 31) = W0 from hW0, e5] at HX_b4_0
  rw [hW0] at HB_0 HDV
  have HWE := hide hW0
  clear e5 ha hb ha' hb' hW0 bA
  simp only [Tri.val]
  generalize qa / qb = q at *
  go_enter Tryd.func65, Tryd.ntmps65
  go_wp2_with fail
  rw [unhide HWE]
  clear HWE
  obtain ⟨b4, hb4⟩ : ∃ b, w.heap.size + 1 + 1 = b := ⟨_, rfl⟩
  have HG_b4 : Hid (w.heap.size ≤ b4) := show _ ≤ _ by omega
  rw [hb4] at HX_b4_0 ⊢
  clear hb4
  refine (unhide HDV).mono ?_
  rintro e w_1 ⟨v4, rfl, hv4, hbx⟩
  obtain ⟨t5, rfl, hr_1⟩ := tri_of hv4
  simp only [Tri.val]
  have HL_b4_b5 := hide (Nat.lt_of_lt_of_le (unhide HX_b4_0).lt hbx.size)
  have HG_b5 := hide (below_step (unhide HB_0) hbx).size
  have hb_1 := below_step hbx (alloc_below w_1 (.cells #[.bool t5.s, .slice t5.a1 t5.n1 t5.c1, .slice t5.a2 t5.n2 t5.c2] 31))
  have HB_2 := hide (below_step (unhide HB_0) hb_1)
  have HX_b4_2 := hide ((unhide HX_b4_0).keep hb_1)
  clear HB_0 HX_b4_0
  have HX_b5_1 := hide (BoxIs.new hr_1)
  obtain ⟨Wb5, hW_1⟩ : ∃ W, w_1.alloc (.cells #[.bool t5.s, .slice t5.a1 t5.n1 t5.c1, .slice t5.a2 t5.n2 t5.c2] 31) = W := ⟨_, rfl⟩
  obtain ⟨b5, hc_1⟩ : ∃ b, w_1.heap.size = b := ⟨_, rfl⟩
  rw [hW_1] at HB_2 HX_b4_2 HX_b5_1
  rw [hc_1] at HX_b5_1 HL_b4_b5 HG_b5
  clear hv4 hr_1 hbx hb_1
  have ⟨l0, l1, l2⟩ := (unhide HX_b4_2).free
  have ⟨y0, y1, y2⟩ := (unhide HX_b4_2).cells _ (Below.refl _ _)
  have ⟨y3, y4, y5⟩ := (unhide HX_b5_1).cells _ (Below.refl _ _)
  have FIN := hide ((unhide HX_b4_2).set (unhide HX_b5_1).2)
  have FB := hide ((((unhide HB_2).setCell (p := ⟨b4, 0, none⟩) (unhide HG_b4) (.bool t5.s)).setCell (p := ⟨b4, 1, none⟩) (unhide HG_b4) (.slice t5.a1 t5.n1 t5.c1)).setCell (p := ⟨b4, 2, none⟩) (unhide HG_b4) (.slice t5.a2 t5.n2 t5.c2))
  obtain ⟨Wf, hWf⟩ : ∃ W, ((Wb5.setCell ⟨b4, 0, none⟩ (.bool t5.s)).setCell ⟨b4, 1, none⟩ (.slice t5.a1 t5.n1 t5.c1)).setCell ⟨b4, 2, none⟩ (.slice t5.a2 t5.n2 t5.c2) = W := ⟨_, rfl⟩
  rw [hWf] at FIN FB
  have ⟨x0, x1, x2⟩ := (unhide FIN).cells _ (Below.refl _ _)
  go_wp2
  exact bodyPost_ret (v := .agg #[.bool t5.s, .slice t5.a1 t5.n1 t5.c1, .slice t5.a2 t5.n2 t5.c2]) (by simp [results, Tryd.results65, go_sem, x0, x1, x2]) rfl ⟨_, rfl, (unhide FIN).2, unhide FB⟩
end Go.Proofs.YtpopcfclpemlaaaDoor
/- Renewals: checkCosts, cost. -/
namespace Go.Proofs.YtpopcfclpemlaaaDoor
open Go.RowKit Go.Sort Go.Shelf

/-- Two fractions one behind the other, and a box. -/
structure TwoJ (q1 q2 : Rat) (w0 : World) (c : Nat) (l : Bool) (w : World) (s1 s2 s3 : Value) : Prop where
  bl : Below w0.heap.size w0 w
  r1 : 1 ≤ c → RatIs w s1 q1
  r2 : 2 ≤ c → RatIs w s2 q2
  al : l = true → ∃ b, s3 = .pointer (some ⟨b, 0, none⟩) ∧ BoxIs w b zTri 0 ∧ w0.heap.size ≤ b

theorem sign_nn' {z : Int} (h : 0 ≤ z) : 0 ≤ z.sign := by
  rcases Int.lt_or_eq_of_le h with a | a
  · rw [Int.sign_eq_one_of_pos a]; decide
  · rw [← a]; decide
theorem one_RSi : RS ((1 : Int) : Rat) 1 := by
  rw [show ((1 : Int) : Rat) = 1 by simp]; exact one_RS'
/-- What checkCosts says. -/
def rcc (qs : List Rat) (f p : Rat) : Int := if rnc qs = 0 then (if f.num < 0 ∨ p.num < 0 then 1 else 0) else rnc qs
set_option maxHeartbeats 16000000 in
set_option maxRecDepth 100000 in
set_option linter.unusedSimpArgs false in
theorem rcosts_any (v vf vp : Value) (qs : List Rat) (qf qp : Rat) (J : Nat) (w : World) (h : LawIs w v qs) (hf0 : RatIs w vf qf) (hp0 : RatIs w vp qp) (hq : ∀ j, j < qs.length → RS qs[j]! J) (hJ : (qs.length * (J + 1) + 1 + J) + (qs.length * (J + 1) + 1 + J) + 1 ≤ KK) :
    Calls Tryd.prog 71 #[v, vf, vp] w fun e w' => e = .returned (errV (rcc qs qf qp)) ∧ Below w.heap.size w w' := by
  obtain ⟨tf, rfl, hf⟩ := tri_of hf0
  obtain ⟨tp, rfl, hp⟩ := tri_of hp0
  simp only [Tri.val]
  have bb_1 := alloc_below w (.cells #[.bool tf.s, .slice tf.a1 tf.n1 tf.c1, .slice tf.a2 tf.n2 tf.c2] 31)
  have X_1 := BoxIs.new (hf)
  obtain ⟨W_1, hW_1⟩ : ∃ W, w.alloc (.cells #[.bool tf.s, .slice tf.a1 tf.n1 tf.c1, .slice tf.a2 tf.n2 tf.c2] 31) = W := ⟨_, rfl⟩
  obtain ⟨b_f, hb_f⟩ : ∃ b, w.heap.size = b := ⟨_, rfl⟩
  rw [hW_1] at bb_1 X_1
  rw [hb_f] at X_1
  have X_1_ := X_1
  have tb_1 := bb_1
  have hg_f : w.heap.size ≤ b_f := by rw [← hb_f]; exact Nat.le_refl _
  have HG_f := hide hg_f
  have bb_2 := alloc_below W_1 (.cells #[.bool tp.s, .slice tp.a1 tp.n1 tp.c1, .slice tp.a2 tp.n2 tp.c2] 31)
  have X_2 := BoxIs.new (hp.below tb_1)
  obtain ⟨W_2, hW_2⟩ : ∃ W, W_1.alloc (.cells #[.bool tp.s, .slice tp.a1 tp.n1 tp.c1, .slice tp.a2 tp.n2 tp.c2] 31) = W := ⟨_, rfl⟩
  obtain ⟨b_p, hb_p⟩ : ∃ b, W_1.heap.size = b := ⟨_, rfl⟩
  rw [hW_2] at bb_2 X_2
  rw [hb_p] at X_2
  have X_2_ := X_2
  have tb_2 := below_step tb_1 bb_2
  have hg_p : w.heap.size ≤ b_p := by rw [← hb_p]; exact tb_1.size
  have HG_p := hide hg_p
  have HX_f := hide (fun W (hW : Below W_2.heap.size W_2 W) => (X_1_.keep bb_2).keep hW)
  have HX_p := hide (fun W (hW : Below W_2.heap.size W_2 W) => X_2_.keep hW)
  have HBW := hide (fun W (hW : Below W_2.heap.size W_2 W) => below_step tb_2 hW)
  have HB0 := hide tb_2
  clear bb_1 X_1 X_1_ tb_1 bb_2 X_2 X_2_ tb_2 hg_f hg_p
  have HC := hide (rcheck_any v qs J W_2 (h.below (unhide HB0)) hq hJ)
  have HSG_f : Hid (∀ W, Below W_2.heap.size W_2 W → Calls Tryd.prog 19 #[.agg #[.bool tf.s, .slice tf.a1 tf.n1 tf.c1, .slice tf.a2 tf.n2 tf.c2]] W fun e w' => e = .returned (.int .i64 qf.num.sign) ∧ Below W.heap.size W w') := fun W hW => sign_any tf.val qf W (unhide HX_f _ hW).2
  have HSG_p : Hid (∀ W, Below W_2.heap.size W_2 W → Calls Tryd.prog 19 #[.agg #[.bool tp.s, .slice tp.a1 tp.n1 tp.c1, .slice tp.a2 tp.n2 tp.c2]] W fun e w' => e = .returned (.int .i64 qp.num.sign) ∧ Below W.heap.size W w') := fun W hW => sign_any tp.val qp W (unhide HX_p _ hW).2
  have h' := h
  obtain ⟨a, c, rfl, -⟩ := h'
  by_cases hc : rnc qs = 0
  · have hr : rcc qs qf qp = if qf.num < 0 ∨ qp.num < 0 then 1 else 0 := by unfold rcc; rw [if_pos hc]
    rw [hr]
    rw [hc, errV_zero] at HC
    clear h hq hJ hr hc hf0 hp0 hf hp
    generalize qs.length = n at *
    by_cases hfn : qf.num < 0
    · rw [if_pos (Or.inl hfn)]
      have hsf : qf.num.sign = -1 := Int.sign_eq_neg_one_of_neg hfn
      rw [hsf] at HSG_f
      clear hsf
      clear hfn HSG_p
      go_enter Tryd.func71, Tryd.ntmps71
      go_wp2_with fail
      clear hW_1 hb_f hW_2 hb_p
      refine (unhide HC).mono ?_
      rintro e w1 ⟨rfl, hb1⟩
      have HS1 := hide (unhide HSG_f w1 hb1)
      have ⟨k0, k1, k2⟩ := (unhide HX_f _ hb1).cells _ (Below.refl _ _)
      have HB1 := hide hb1
      clear hb1 HC HSG_f
      go_wp2_with fail
      refine (unhide HS1).mono ?_
      rintro e w2 ⟨rfl, hb2⟩
      have HB2 := hide (below_step (unhide HB1) hb2)
      clear hb2 k0 k1 k2 HS1 HB1
      go_wp2
      go_ret
      exact ⟨rfl, unhide HBW _ (unhide HB2)⟩
    · by_cases hpn : qp.num < 0
      · rw [if_pos (Or.inr hpn)]
        have bd_f := sign_bd qf.num
        have hsf : 0 ≤ qf.num.sign := sign_nn' (by omega)
        obtain ⟨yf, hyf⟩ : ∃ y, qf.num.sign = y := ⟨_, rfl⟩
        rw [hyf] at HSG_f bd_f hsf
        have hd_f : decide (yf < 0) = false := decide_eq_false (by omega)
        clear hyf hsf bd_f
        have hsp : qp.num.sign = -1 := Int.sign_eq_neg_one_of_neg hpn
        rw [hsp] at HSG_p
        clear hsp
        clear hfn hpn
        go_enter Tryd.func71, Tryd.ntmps71
        go_wp2_with fail
        clear hW_1 hb_f hW_2 hb_p
        refine (unhide HC).mono ?_
        rintro e w1 ⟨rfl, hb1⟩
        have HS1 := hide (unhide HSG_f w1 hb1)
        have ⟨k0, k1, k2⟩ := (unhide HX_f _ hb1).cells _ (Below.refl _ _)
        have HB1 := hide hb1
        clear hb1 HC HSG_f
        go_wp2_with fail
        refine (unhide HS1).mono ?_
        rintro e w2 ⟨rfl, hb2⟩
        have HB2 := hide (below_step (unhide HB1) hb2)
        clear hb2 k0 k1 k2 HS1 HB1
        have HS2 := hide (unhide HSG_p w2 (unhide HB2))
        have ⟨k0, k1, k2⟩ := (unhide HX_p _ (unhide HB2)).cells _ (Below.refl _ _)
        clear HSG_p
        go_wp2_with fail
        refine (unhide HS2).mono ?_
        rintro e w3 ⟨rfl, hb3⟩
        have HB3 := hide (below_step (unhide HB2) hb3)
        clear hb3 k0 k1 k2 HS2 HB2
        go_wp2
        go_ret
        exact ⟨rfl, unhide HBW _ (unhide HB3)⟩
      · rw [if_neg (fun h => h.elim hfn hpn)]
        have bd_f := sign_bd qf.num
        have hsf : 0 ≤ qf.num.sign := sign_nn' (by omega)
        obtain ⟨yf, hyf⟩ : ∃ y, qf.num.sign = y := ⟨_, rfl⟩
        rw [hyf] at HSG_f bd_f hsf
        have hd_f : decide (yf < 0) = false := decide_eq_false (by omega)
        clear hyf hsf bd_f
        have bd_p := sign_bd qp.num
        have hsp : 0 ≤ qp.num.sign := sign_nn' (by omega)
        obtain ⟨yp, hyp⟩ : ∃ y, qp.num.sign = y := ⟨_, rfl⟩
        rw [hyp] at HSG_p bd_p hsp
        have hd_p : decide (yp < 0) = false := decide_eq_false (by omega)
        clear hyp hsp bd_p
        clear hfn hpn
        go_enter Tryd.func71, Tryd.ntmps71
        go_wp2_with fail
        clear hW_1 hb_f hW_2 hb_p
        refine (unhide HC).mono ?_
        rintro e w1 ⟨rfl, hb1⟩
        have HS1 := hide (unhide HSG_f w1 hb1)
        have ⟨k0, k1, k2⟩ := (unhide HX_f _ hb1).cells _ (Below.refl _ _)
        have HB1 := hide hb1
        clear hb1 HC HSG_f
        go_wp2_with fail
        refine (unhide HS1).mono ?_
        rintro e w2 ⟨rfl, hb2⟩
        have HB2 := hide (below_step (unhide HB1) hb2)
        clear hb2 k0 k1 k2 HS1 HB1
        have HS2 := hide (unhide HSG_p w2 (unhide HB2))
        have ⟨k0, k1, k2⟩ := (unhide HX_p _ (unhide HB2)).cells _ (Below.refl _ _)
        clear HSG_p
        go_wp2_with fail
        refine (unhide HS2).mono ?_
        rintro e w3 ⟨rfl, hb3⟩
        have HB3 := hide (below_step (unhide HB2) hb3)
        clear hb3 k0 k1 k2 HS2 HB2
        go_wp2
        go_ret
        exact ⟨rfl, unhide HBW _ (unhide HB3)⟩
  · have hr : rcc qs qf qp = rnc qs := by unfold rcc; rw [if_neg hc]
    rw [hr]
    rw [errV_not hc] at HC ⊢
    generalize rnc qs = k at *
    clear h hq hJ hr hc hf0 hp0 hf hp
    generalize qs.length = n at *
    go_enter Tryd.func71, Tryd.ntmps71
    go_wp2_with fail
    clear hW_1 hb_f hW_2 hb_p
    refine (unhide HC).mono ?_
    rintro e w1 ⟨rfl, hb1⟩
    have HB1 := hide hb1
    clear hb1
    go_wp2
    go_ret
    exact ⟨rfl, unhide HBW _ (unhide HB1)⟩

set_option maxHeartbeats 16000000 in
set_option maxRecDepth 100000 in
set_option linter.unusedSimpArgs false in
theorem rcost_any (vf vp vl vt : Value) (qf qp ql qt : Rat) (J0 JJ : Nat) (w : World) (hf0 : RatIs w vf qf) (hp0 : RatIs w vp qp) (hl0 : RatIs w vl ql) (ht0 : RatIs w vt qt) (rf : RS qf J0) (rp : RS qp J0) (rl : RS ql J0) (rt : RS qt J0) (hz : qt.num ≠ 0) (hJJ : 4 * J0 + 8 ≤ JJ) (hJ : JJ + JJ + 1 ≤ KK) :
    Calls Tryd.prog 72 #[vf, vp, vl, vt] w fun e w' => ∃ v, e = .returned v ∧ RatIs w' v ((qf * (((1 : Int) : Rat) - ql) + qp * ql) / qt) ∧ Below w.heap.size w w' := by
  obtain ⟨tf, rfl, hf⟩ := tri_of hf0
  obtain ⟨tp, rfl, hp⟩ := tri_of hp0
  obtain ⟨tl, rfl, hl⟩ := tri_of hl0
  obtain ⟨tt, rfl, ht⟩ := tri_of ht0
  simp only [Tri.val]
  have bb_1 := alloc_below w (.cells #[.bool tf.s, .slice tf.a1 tf.n1 tf.c1, .slice tf.a2 tf.n2 tf.c2] 31)
  have X_1 := BoxIs.new (hf)
  obtain ⟨W_1, hW_1⟩ : ∃ W, w.alloc (.cells #[.bool tf.s, .slice tf.a1 tf.n1 tf.c1, .slice tf.a2 tf.n2 tf.c2] 31) = W := ⟨_, rfl⟩
  obtain ⟨b_f, hb_f⟩ : ∃ b, w.heap.size = b := ⟨_, rfl⟩
  rw [hW_1] at bb_1 X_1
  rw [hb_f] at X_1
  have X_1_ := X_1
  have tb_1 := bb_1
  have hg_f : w.heap.size ≤ b_f := by rw [← hb_f]; exact Nat.le_refl _
  have HG_f := hide hg_f
  have bb_2 := alloc_below W_1 (.cells #[.bool tp.s, .slice tp.a1 tp.n1 tp.c1, .slice tp.a2 tp.n2 tp.c2] 31)
  have X_2 := BoxIs.new (hp.below tb_1)
  obtain ⟨W_2, hW_2⟩ : ∃ W, W_1.alloc (.cells #[.bool tp.s, .slice tp.a1 tp.n1 tp.c1, .slice tp.a2 tp.n2 tp.c2] 31) = W := ⟨_, rfl⟩
  obtain ⟨b_p, hb_p⟩ : ∃ b, W_1.heap.size = b := ⟨_, rfl⟩
  rw [hW_2] at bb_2 X_2
  rw [hb_p] at X_2
  have X_2_ := X_2
  have tb_2 := below_step tb_1 bb_2
  have hg_p : w.heap.size ≤ b_p := by rw [← hb_p]; exact tb_1.size
  have HG_p := hide hg_p
  have bb_3 := alloc_below W_2 (.cells #[.bool tl.s, .slice tl.a1 tl.n1 tl.c1, .slice tl.a2 tl.n2 tl.c2] 31)
  have X_3 := BoxIs.new (hl.below tb_2)
  obtain ⟨W_3, hW_3⟩ : ∃ W, W_2.alloc (.cells #[.bool tl.s, .slice tl.a1 tl.n1 tl.c1, .slice tl.a2 tl.n2 tl.c2] 31) = W := ⟨_, rfl⟩
  obtain ⟨b_l, hb_l⟩ : ∃ b, W_2.heap.size = b := ⟨_, rfl⟩
  rw [hW_3] at bb_3 X_3
  rw [hb_l] at X_3
  have X_3_ := X_3
  have tb_3 := below_step tb_2 bb_3
  have hg_l : w.heap.size ≤ b_l := by rw [← hb_l]; exact tb_2.size
  have HG_l := hide hg_l
  have bb_4 := alloc_below W_3 (.cells #[.bool tt.s, .slice tt.a1 tt.n1 tt.c1, .slice tt.a2 tt.n2 tt.c2] 31)
  have X_4 := BoxIs.new (ht.below tb_3)
  obtain ⟨W_4, hW_4⟩ : ∃ W, W_3.alloc (.cells #[.bool tt.s, .slice tt.a1 tt.n1 tt.c1, .slice tt.a2 tt.n2 tt.c2] 31) = W := ⟨_, rfl⟩
  obtain ⟨b_t, hb_t⟩ : ∃ b, W_3.heap.size = b := ⟨_, rfl⟩
  rw [hW_4] at bb_4 X_4
  rw [hb_t] at X_4
  have X_4_ := X_4
  have tb_4 := below_step tb_3 bb_4
  have hg_t : w.heap.size ≤ b_t := by rw [← hb_t]; exact tb_3.size
  have HG_t := hide hg_t
  have bb_5 := alloc_below W_4 (.cells #[.bool false, .slice none 0 0, .slice none 0 0] 31)
  have X_5 := BoxIs.new (w := W_4) (t := zTri) (q := 0) (rat_zero _)
  obtain ⟨W_5, hW_5⟩ : ∃ W, W_4.alloc (.cells #[.bool false, .slice none 0 0, .slice none 0 0] 31) = W := ⟨_, rfl⟩
  obtain ⟨b_R, hb_R⟩ : ∃ b, W_4.heap.size = b := ⟨_, rfl⟩
  have X_5_ : BoxIs W_5 b_R zTri 0 := by rw [← hW_5, ← hb_R]; exact X_5
  rw [hW_5] at bb_5
  have tb_5 := below_step tb_4 bb_5
  have hg_R : w.heap.size ≤ b_R := by rw [← hb_R]; exact tb_4.size
  have HG_R := hide hg_R
  have HX_f := hide (fun W (hW : Below W_5.heap.size W_5 W) => ((((X_1_.keep bb_2).keep bb_3).keep bb_4).keep bb_5).keep hW)
  have HX_p := hide (fun W (hW : Below W_5.heap.size W_5 W) => (((X_2_.keep bb_3).keep bb_4).keep bb_5).keep hW)
  have HX_l := hide (fun W (hW : Below W_5.heap.size W_5 W) => ((X_3_.keep bb_4).keep bb_5).keep hW)
  have HX_t := hide (fun W (hW : Below W_5.heap.size W_5 W) => (X_4_.keep bb_5).keep hW)
  have HX_R := hide (fun W (hW : Below W_5.heap.size W_5 W) => X_5_.keep hW)
  have HBW := hide (fun W (hW : Below W_5.heap.size W_5 W) => below_step tb_5 hW)
  have HB0 := hide tb_5
  clear bb_1 X_1 X_1_ tb_1 bb_2 X_2 X_2_ tb_2 bb_3 X_3 X_3_ tb_3 bb_4 X_4 X_4_ tb_4 bb_5 X_5 X_5_ tb_5 hg_f hg_p hg_l hg_t hg_R
  have HCC1 : Hid (∀ W, Below W_5.heap.size W_5 W → (fun w' : World => w'.cell? ⟨b_l, 0, none⟩ = some (.bool tl.s) ∧ w'.cell? ⟨b_l, 1, none⟩ = some (.slice tl.a1 tl.n1 tl.c1) ∧ w'.cell? ⟨b_l, 2, none⟩ = some (.slice tl.a2 tl.n2 tl.c2)) W) := fun W hW => (unhide HX_l _ hW).cells _ (Below.refl _ _)
  have HTL := hide (unhide HX_l _ (Below.refl _ _)).2
  have HJ := hide hJ
  have HNZ := hide hz
  have HR1 : Hid (RS ((1 : Int) : Rat) JJ) := one_RSi.mono (by omega)
  have HRL : Hid (RS ql JJ) := rl.mono (by omega)
  have HRF : Hid (RS qf JJ) := rf.mono (by omega)
  have HRP : Hid (RS qp JJ) := rp.mono (by omega)
  have HRT : Hid (RS qt JJ) := rt.mono (by omega)
  have rn := one_RSi.sub' rl
  have HRN : Hid (RS (((1 : Int) : Rat) - ql) JJ) := rn.mono (by omega)
  have HRA : Hid (RS (qf * (((1 : Int) : Rat) - ql)) JJ) := (rf.mul rn).mono (by omega)
  have HRB : Hid (RS (qp * ql) JJ) := (rp.mul rl).mono (by omega)
  have HRC : Hid (RS (qf * (((1 : Int) : Rat) - ql) + qp * ql) JJ) := ((rf.mul rn).add (rp.mul rl)).mono (by omega)
  clear hf0 hp0 hl0 ht0 hf hp hl ht rf rp rl rt rn hz hJJ hJ
  go_enter Tryd.func72, Tryd.ntmps72
  go_wp2_with fail
  clear hW_1 hb_f hW_2 hb_p hW_3 hb_l hW_4 hb_t hW_5 hb_R
  refine wp_region_hold (fun w' : World => w'.cell? ⟨b_l, 0, none⟩ = some (.bool tl.s) ∧ w'.cell? ⟨b_l, 1, none⟩ = some (.slice tl.a1 tl.n1 tl.c1) ∧ w'.cell? ⟨b_l, 2, none⟩ = some (.slice tl.a2 tl.n2 tl.c2)) (by kernel_rfl) ?_
  have bd0 : Below W_5.heap.size W_5 W_5.drew := (Below.refl _ _).drew
  obtain ⟨Wx, hWx⟩ : ∃ W, W_5.drew = W := ⟨_, rfl⟩
  rw [hWx] at bd0 ⊢
  have hC0 : (fun w' : World => w'.cell? ⟨b_l, 0, none⟩ = some (.bool tl.s) ∧ w'.cell? ⟨b_l, 1, none⟩ = some (.slice tl.a1 tl.n1 tl.c1) ∧ w'.cell? ⟨b_l, 2, none⟩ = some (.slice tl.a2 tl.n2 tl.c2)) Wx := unhide HCC1 _ bd0
  refine wpHold_take (i := 1) (v := ?_) rfl (by kernel_rfl) (by kernel_rfl) (by kernel_rfl) (fun _ _ _ h => h) (Or.inl ⟨by rfl, ?_⟩) hC0 ?_
  rotate_left
  · intro w hSw; (try dsimp only at hSw); obtain ⟨u0, u1, u2⟩ := hSw; go_simp; (try with_reducible rfl)
  (try simp only [List.getElem_toArray, List.getElem_cons_succ, List.getElem_cons_zero])
  (try simp only [Act.put, List.setIfInBounds_toArray, List.set_cons_zero, List.set_cons_succ])
  refine wpHold_listed (n := 4) (L' := (fun nc nl => #[decide (1 ≤ nc), true, decide (2 ≤ nc), nl, false]) 0 false) (by kernel_rfl) (by kernel_rfl) ?_
  refine wpHold_name (fun a0 ha0 => ?_)
  refine two_one_any (fun nc nl => #[decide (1 ≤ nc), true, decide (2 ≤ nc), nl, false]) 0 2 3 1 (fun nc nl na W => ∃ s1 s2 s3, na = ((a0.put (some 10) s1).put (some 12) s2).put (some 9) s3 ∧ TwoJ (((1 : Int) : Rat)) (((1 : Int) : Rat) - ql) Wx nc nl W s1 s2 s3) ?_ ?_ (fun l => rfl) (fun l => rfl) (fun c => rfl) ?_ ?_ ?_ ?_ 3 0 false (by omega) (by rfl) _ _ ⟨undef, undef, undef, by subst ha0; rfl, Below.refl _ _, fun h => absurd h (by decide), fun h => absurd h (by decide), fun h => by cases h⟩
  · clear ha0
    intro nc nl hnc
    match nc, hnc with
    | 0, _ => cases nl <;> (show (_ : Bool) = _; kernel_rfl)
    | 1, _ => cases nl <;> (show (_ : Bool) = _; kernel_rfl)
    | 2, _ => cases nl <;> (show (_ : Bool) = _; kernel_rfl)
  · clear ha0
    intro nc nl hnc
    match nc, hnc with
    | 0, _ => cases nl <;> (intro _; show (_ : Bool) = _; kernel_rfl)
    | 1, _ => cases nl <;> (intro _; show (_ : Bool) = _; kernel_rfl)
    | 2, _ => cases nl <;> (intro h; first | (show (_ : Bool) = _; kernel_rfl) | exact absurd h (by decide))
  · rintro nl na wv ⟨s1, s2, s3, rfl, J⟩
    subst ha0
    refine wpOp_step rfl (fun K hK => ?_)
    (try simp only [Act.put, List.setIfInBounds_toArray, List.set_cons_zero, List.set_cons_succ] at hK ⊢)
    (try simp only [List.getElem_toArray, List.getElem_cons_succ, List.getElem_cons_zero])
    go_simp
    refine (whole_any 1 (by decide) (by decide) wv).mono ?_
    rintro e wz ⟨v, rfl, hv, hb⟩
    exact hK _ _ ⟨unhide HCC1 _ (below_step bd0 (below_step J.bl hb)), v, s2, s3, rfl, below_step J.bl hb, fun _ => hv, fun h => absurd h (by decide), fun h => by
      obtain ⟨b, e1, e2, e3⟩ := J.al h
      exact ⟨b, e1, e2.keep hb, e3⟩⟩
  · rintro nl na wv ⟨s1, s2, s3, rfl, J⟩
    subst ha0
    refine wpOp_step rfl (fun K hK => ?_)
    (try simp only [Act.put, List.setIfInBounds_toArray, List.set_cons_zero, List.set_cons_succ] at hK ⊢)
    (try simp only [List.getElem_toArray, List.getElem_cons_succ, List.getElem_cons_zero])
    go_simp
    refine (subR_any s1 tl.val _ _ wv (J.r1 (by decide)) ((unhide HTL).below (below_step bd0 J.bl)) JJ (unhide HR1) (unhide HRL) (unhide HJ)).mono ?_
    rintro e wz ⟨v, rfl, hv, hb⟩
    exact hK _ _ ⟨unhide HCC1 _ (below_step bd0 (below_step J.bl hb)), s1, v, s3, rfl, below_step J.bl hb, fun _ => (J.r1 (by decide)).below hb, fun _ => hv, fun h => by
      obtain ⟨b, e1, e2, e3⟩ := J.al h
      exact ⟨b, e1, e2.keep hb, e3⟩⟩
  · rintro nc na wv ⟨s1, s2, s3, rfl, J⟩
    subst ha0
    refine wpOp_step rfl (fun K hK => ?_)
    (try simp only [Act.put, List.setIfInBounds_toArray, List.set_cons_zero, List.set_cons_succ] at hK ⊢)
    (try simp only [List.getElem_toArray, List.getElem_cons_succ, List.getElem_cons_zero])
    go_simp
    have hb := alloc_below wv (.cells #[.bool false, .slice none 0 0, .slice none 0 0] 31)
    exact hK _ _ ⟨unhide HCC1 _ (below_step bd0 (below_step J.bl hb)), s1, s2, .pointer (some ⟨wv.heap.size, 0, none⟩), rfl, below_step J.bl hb, fun h => (J.r1 h).below hb, fun h => (J.r2 h).below hb, fun _ => ⟨wv.heap.size, rfl, BoxIs.new (t := zTri) (rat_zero _), J.bl.size⟩⟩
  · rintro na wv ⟨s1, s2, s3, rfl, J⟩
    subst ha0
    obtain ⟨bn, rfl, B10, e10⟩ := J.al rfl
    obtain ⟨tn, rfl, r0⟩ := tri_of (J.r2 (by decide))
    simp only [Tri.val]
    (try simp only [Act.put, List.setIfInBounds_toArray, List.set_cons_zero, List.set_cons_succ])
    have ⟨l0, l1, l2⟩ := B10.free
    have ⟨k0, k1, k2⟩ := B10.cells _ (Below.refl _ _)
    have NB := B10.set r0
    have e10' : W_5.heap.size ≤ bn := Nat.le_trans bd0.size e10
    have YB := (((below_step bd0 J.bl).setCell (p := ⟨bn, 0, none⟩) e10' (.bool tn.s)).setCell (p := ⟨bn, 1, none⟩) e10' (.slice tn.a1 tn.n1 tn.c1)).setCell (p := ⟨bn, 2, none⟩) e10' (.slice tn.a2 tn.n2 tn.c2)
    have HG_bn := hide e10'
    have hCn : (fun w' : World => w'.cell? ⟨b_l, 0, none⟩ = some (.bool tl.s) ∧ w'.cell? ⟨b_l, 1, none⟩ = some (.slice tl.a1 tl.n1 tl.c1) ∧ w'.cell? ⟨b_l, 2, none⟩ = some (.slice tl.a2 tl.n2 tl.c2)) _ := unhide HCC1 _ YB
    obtain ⟨Wbn, hWy⟩ : ∃ W, ((wv.setCell ⟨bn, 0, none⟩ (.bool tn.s)).setCell ⟨bn, 1, none⟩ (.slice tn.a1 tn.n1 tn.c1)).setCell ⟨bn, 2, none⟩ (.slice tn.a2 tn.n2 tn.c2) = W := ⟨_, rfl⟩
    rw [hWy] at NB YB hCn
    have HX_bn := hide NB
    have HY_bn := hide YB
    clear J B10 r0 hC0 YB NB e10'
    refine wpHold_one (k := 4) (by kernel_rfl) rfl (fun K hK => ?_)
    (try simp only [List.getElem_toArray, List.getElem_cons_succ, List.getElem_cons_zero])
    go_simp
    refine hK.out _ _ hCn ?_
    clear hK K
    (try simp only [Act.put, List.setIfInBounds_toArray, List.set_cons_zero, List.set_cons_succ])
    refine wpHold_done (by kernel_rfl) ?_ _
    clear hCn l0 l1 l2 k0 k1 k2 hWy e10 bd0 hWx
    have HCC2 : Hid (∀ W, Below Wbn.heap.size Wbn W → (fun w' : World => (w'.cell? ⟨b_f, 0, none⟩ = some (.bool tf.s) ∧ w'.cell? ⟨b_f, 1, none⟩ = some (.slice tf.a1 tf.n1 tf.c1) ∧ w'.cell? ⟨b_f, 2, none⟩ = some (.slice tf.a2 tf.n2 tf.c2)) ∧ (w'.cell? ⟨bn, 0, none⟩ = some (.bool tn.s) ∧ w'.cell? ⟨bn, 1, none⟩ = some (.slice tn.a1 tn.n1 tn.c1) ∧ w'.cell? ⟨bn, 2, none⟩ = some (.slice tn.a2 tn.n2 tn.c2)) ∧ (w'.cell? ⟨b_p, 0, none⟩ = some (.bool tp.s) ∧ w'.cell? ⟨b_p, 1, none⟩ = some (.slice tp.a1 tp.n1 tp.c1) ∧ w'.cell? ⟨b_p, 2, none⟩ = some (.slice tp.a2 tp.n2 tp.c2)) ∧ (w'.cell? ⟨b_l, 0, none⟩ = some (.bool tl.s) ∧ w'.cell? ⟨b_l, 1, none⟩ = some (.slice tl.a1 tl.n1 tl.c1) ∧ w'.cell? ⟨b_l, 2, none⟩ = some (.slice tl.a2 tl.n2 tl.c2)) ∧ (w'.cell? ⟨b_t, 0, none⟩ = some (.bool tt.s) ∧ w'.cell? ⟨b_t, 1, none⟩ = some (.slice tt.a1 tt.n1 tt.c1) ∧ w'.cell? ⟨b_t, 2, none⟩ = some (.slice tt.a2 tt.n2 tt.c2))) W) := fun W hW => by
      have h2 := below_step (unhide HY_bn) hW
      exact ⟨(unhide HX_f _ h2).cells _ (Below.refl _ _), (unhide HX_bn).cells W hW, (unhide HX_p _ h2).cells _ (Below.refl _ _), (unhide HX_l _ h2).cells _ (Below.refl _ _), (unhide HX_t _ h2).cells _ (Below.refl _ _)⟩
    have HTF := hide (unhide HX_f _ (unhide HY_bn)).2
    have HTP := hide (unhide HX_p _ (unhide HY_bn)).2
    have HTL2 := hide (unhide HX_l _ (unhide HY_bn)).2
    have HTT := hide (unhide HX_t _ (unhide HY_bn)).2
    clear HCC1 HTL HR1
    go_wp2_with fail
    refine wp_region_till (fun w' : World => (w'.cell? ⟨b_f, 0, none⟩ = some (.bool tf.s) ∧ w'.cell? ⟨b_f, 1, none⟩ = some (.slice tf.a1 tf.n1 tf.c1) ∧ w'.cell? ⟨b_f, 2, none⟩ = some (.slice tf.a2 tf.n2 tf.c2)) ∧ (w'.cell? ⟨bn, 0, none⟩ = some (.bool tn.s) ∧ w'.cell? ⟨bn, 1, none⟩ = some (.slice tn.a1 tn.n1 tn.c1) ∧ w'.cell? ⟨bn, 2, none⟩ = some (.slice tn.a2 tn.n2 tn.c2)) ∧ (w'.cell? ⟨b_p, 0, none⟩ = some (.bool tp.s) ∧ w'.cell? ⟨b_p, 1, none⟩ = some (.slice tp.a1 tp.n1 tp.c1) ∧ w'.cell? ⟨b_p, 2, none⟩ = some (.slice tp.a2 tp.n2 tp.c2)) ∧ (w'.cell? ⟨b_l, 0, none⟩ = some (.bool tl.s) ∧ w'.cell? ⟨b_l, 1, none⟩ = some (.slice tl.a1 tl.n1 tl.c1) ∧ w'.cell? ⟨b_l, 2, none⟩ = some (.slice tl.a2 tl.n2 tl.c2)) ∧ (w'.cell? ⟨b_t, 0, none⟩ = some (.bool tt.s) ∧ w'.cell? ⟨b_t, 1, none⟩ = some (.slice tt.a1 tt.n1 tt.c1) ∧ w'.cell? ⟨b_t, 2, none⟩ = some (.slice tt.a2 tt.n2 tt.c2))) 9 (by kernel_rfl) ?_
    have bd0 : Below Wbn.heap.size Wbn Wbn.drew := (Below.refl _ _).drew
    obtain ⟨Wd, hWd⟩ : ∃ W, Wbn.drew = W := ⟨_, rfl⟩
    rw [hWd] at bd0 ⊢
    have hC0 : (fun w' : World => (w'.cell? ⟨b_f, 0, none⟩ = some (.bool tf.s) ∧ w'.cell? ⟨b_f, 1, none⟩ = some (.slice tf.a1 tf.n1 tf.c1) ∧ w'.cell? ⟨b_f, 2, none⟩ = some (.slice tf.a2 tf.n2 tf.c2)) ∧ (w'.cell? ⟨bn, 0, none⟩ = some (.bool tn.s) ∧ w'.cell? ⟨bn, 1, none⟩ = some (.slice tn.a1 tn.n1 tn.c1) ∧ w'.cell? ⟨bn, 2, none⟩ = some (.slice tn.a2 tn.n2 tn.c2)) ∧ (w'.cell? ⟨b_p, 0, none⟩ = some (.bool tp.s) ∧ w'.cell? ⟨b_p, 1, none⟩ = some (.slice tp.a1 tp.n1 tp.c1) ∧ w'.cell? ⟨b_p, 2, none⟩ = some (.slice tp.a2 tp.n2 tp.c2)) ∧ (w'.cell? ⟨b_l, 0, none⟩ = some (.bool tl.s) ∧ w'.cell? ⟨b_l, 1, none⟩ = some (.slice tl.a1 tl.n1 tl.c1) ∧ w'.cell? ⟨b_l, 2, none⟩ = some (.slice tl.a2 tl.n2 tl.c2)) ∧ (w'.cell? ⟨b_t, 0, none⟩ = some (.bool tt.s) ∧ w'.cell? ⟨b_t, 1, none⟩ = some (.slice tt.a1 tt.n1 tt.c1) ∧ w'.cell? ⟨b_t, 2, none⟩ = some (.slice tt.a2 tt.n2 tt.c2))) Wd := unhide HCC2 _ bd0
    refine wpTill_take (i := 0) (v := ?_) rfl (by kernel_rfl) (by kernel_rfl) (by kernel_rfl) (by kernel_rfl) (by kernel_rfl) (by kernel_rfl) (fun _ _ _ h => h) (Or.inl ⟨by rfl, ?_⟩) hC0 ?_
    rotate_left
    · intro w hSw; (try dsimp only at hSw); obtain ⟨⟨u0, u1, u2⟩, ⟨u3, u4, u5⟩, ⟨u6, u7, u8⟩, ⟨u9, u10, u11⟩, u12, u13, u14⟩ := hSw; go_simp; (try with_reducible rfl)
    (try simp only [List.getElem_toArray, List.getElem_cons_succ, List.getElem_cons_zero])
    (try simp only [Act.put, List.setIfInBounds_toArray, List.set_cons_zero, List.set_cons_succ])
    refine wpTill_take (i := 1) (v := ?_) rfl (by kernel_rfl) (by kernel_rfl) (by kernel_rfl) (by kernel_rfl) (by kernel_rfl) (by kernel_rfl) (fun _ _ _ h => h) (Or.inl ⟨by rfl, ?_⟩) hC0 ?_
    rotate_left
    · intro w hSw; (try dsimp only at hSw); obtain ⟨⟨u0, u1, u2⟩, ⟨u3, u4, u5⟩, ⟨u6, u7, u8⟩, ⟨u9, u10, u11⟩, u12, u13, u14⟩ := hSw; go_simp; (try with_reducible rfl)
    (try simp only [List.getElem_toArray, List.getElem_cons_succ, List.getElem_cons_zero])
    (try simp only [Act.put, List.setIfInBounds_toArray, List.set_cons_zero, List.set_cons_succ])
    refine wpTill_take (i := 3) (v := ?_) rfl (by kernel_rfl) (by kernel_rfl) (by kernel_rfl) (by kernel_rfl) (by kernel_rfl) (by kernel_rfl) (fun _ _ _ h => h) (Or.inl ⟨by rfl, ?_⟩) hC0 ?_
    rotate_left
    · intro w hSw; (try dsimp only at hSw); obtain ⟨⟨u0, u1, u2⟩, ⟨u3, u4, u5⟩, ⟨u6, u7, u8⟩, ⟨u9, u10, u11⟩, u12, u13, u14⟩ := hSw; go_simp; (try with_reducible rfl)
    (try simp only [List.getElem_toArray, List.getElem_cons_succ, List.getElem_cons_zero])
    (try simp only [Act.put, List.setIfInBounds_toArray, List.set_cons_zero, List.set_cons_succ])
    refine wpTill_take (i := 4) (v := ?_) rfl (by kernel_rfl) (by kernel_rfl) (by kernel_rfl) (by kernel_rfl) (by kernel_rfl) (by kernel_rfl) (fun _ _ _ h => h) (Or.inl ⟨by rfl, ?_⟩) hC0 ?_
    rotate_left
    · intro w hSw; (try dsimp only at hSw); obtain ⟨⟨u0, u1, u2⟩, ⟨u3, u4, u5⟩, ⟨u6, u7, u8⟩, ⟨u9, u10, u11⟩, u12, u13, u14⟩ := hSw; go_simp; (try with_reducible rfl)
    (try simp only [List.getElem_toArray, List.getElem_cons_succ, List.getElem_cons_zero])
    (try simp only [Act.put, List.setIfInBounds_toArray, List.set_cons_zero, List.set_cons_succ])
    refine wpTill_take (i := 7) (v := ?_) rfl (by kernel_rfl) (by kernel_rfl) (by kernel_rfl) (by kernel_rfl) (by kernel_rfl) (by kernel_rfl) (fun _ _ _ h => h) (Or.inl ⟨by rfl, ?_⟩) hC0 ?_
    rotate_left
    · intro w hSw; (try dsimp only at hSw); obtain ⟨⟨u0, u1, u2⟩, ⟨u3, u4, u5⟩, ⟨u6, u7, u8⟩, ⟨u9, u10, u11⟩, u12, u13, u14⟩ := hSw; go_simp; (try with_reducible rfl)
    (try simp only [List.getElem_toArray, List.getElem_cons_succ, List.getElem_cons_zero])
    (try simp only [Act.put, List.setIfInBounds_toArray, List.set_cons_zero, List.set_cons_succ])
    refine wpTill_one (k := 2) (by kernel_rfl) rfl (fun K hK => ?_)
    (try simp only [List.getElem_toArray, List.getElem_cons_succ, List.getElem_cons_zero])
    go_simp
    refine (mulR_any tf.val tn.val _ _ _ ((unhide HTF).below bd0) ((unhide HX_bn).2.below bd0) JJ (unhide HRF) (unhide HRN) (unhide HJ)).mono ?_
    rintro e xw_1 ⟨xv_1, rfl, hv_1, hb_1⟩
    have cc_1 := below_step bd0 hb_1
    have hC_1 : (fun w' : World => (w'.cell? ⟨b_f, 0, none⟩ = some (.bool tf.s) ∧ w'.cell? ⟨b_f, 1, none⟩ = some (.slice tf.a1 tf.n1 tf.c1) ∧ w'.cell? ⟨b_f, 2, none⟩ = some (.slice tf.a2 tf.n2 tf.c2)) ∧ (w'.cell? ⟨bn, 0, none⟩ = some (.bool tn.s) ∧ w'.cell? ⟨bn, 1, none⟩ = some (.slice tn.a1 tn.n1 tn.c1) ∧ w'.cell? ⟨bn, 2, none⟩ = some (.slice tn.a2 tn.n2 tn.c2)) ∧ (w'.cell? ⟨b_p, 0, none⟩ = some (.bool tp.s) ∧ w'.cell? ⟨b_p, 1, none⟩ = some (.slice tp.a1 tp.n1 tp.c1) ∧ w'.cell? ⟨b_p, 2, none⟩ = some (.slice tp.a2 tp.n2 tp.c2)) ∧ (w'.cell? ⟨b_l, 0, none⟩ = some (.bool tl.s) ∧ w'.cell? ⟨b_l, 1, none⟩ = some (.slice tl.a1 tl.n1 tl.c1) ∧ w'.cell? ⟨b_l, 2, none⟩ = some (.slice tl.a2 tl.n2 tl.c2)) ∧ (w'.cell? ⟨b_t, 0, none⟩ = some (.bool tt.s) ∧ w'.cell? ⟨b_t, 1, none⟩ = some (.slice tt.a1 tt.n1 tt.c1) ∧ w'.cell? ⟨b_t, 2, none⟩ = some (.slice tt.a2 tt.n2 tt.c2))) xw_1 := unhide HCC2 _ cc_1
    refine hK.out _ _ (fun _ => hC_1) ?_
    clear hK K
    (try simp only [Act.put, List.setIfInBounds_toArray, List.set_cons_zero, List.set_cons_succ])
    refine wpTill_one (k := 5) (by kernel_rfl) rfl (fun K hK => ?_)
    (try simp only [List.getElem_toArray, List.getElem_cons_succ, List.getElem_cons_zero])
    go_simp
    refine (mulR_any tp.val tl.val _ _ _ ((unhide HTP).below cc_1) ((unhide HTL2).below cc_1) JJ (unhide HRP) (unhide HRL) (unhide HJ)).mono ?_
    rintro e xw_2 ⟨xv_2, rfl, hv_2, hb_2⟩
    have cc_2 := below_step cc_1 hb_2
    have hC_2 : (fun w' : World => (w'.cell? ⟨b_f, 0, none⟩ = some (.bool tf.s) ∧ w'.cell? ⟨b_f, 1, none⟩ = some (.slice tf.a1 tf.n1 tf.c1) ∧ w'.cell? ⟨b_f, 2, none⟩ = some (.slice tf.a2 tf.n2 tf.c2)) ∧ (w'.cell? ⟨bn, 0, none⟩ = some (.bool tn.s) ∧ w'.cell? ⟨bn, 1, none⟩ = some (.slice tn.a1 tn.n1 tn.c1) ∧ w'.cell? ⟨bn, 2, none⟩ = some (.slice tn.a2 tn.n2 tn.c2)) ∧ (w'.cell? ⟨b_p, 0, none⟩ = some (.bool tp.s) ∧ w'.cell? ⟨b_p, 1, none⟩ = some (.slice tp.a1 tp.n1 tp.c1) ∧ w'.cell? ⟨b_p, 2, none⟩ = some (.slice tp.a2 tp.n2 tp.c2)) ∧ (w'.cell? ⟨b_l, 0, none⟩ = some (.bool tl.s) ∧ w'.cell? ⟨b_l, 1, none⟩ = some (.slice tl.a1 tl.n1 tl.c1) ∧ w'.cell? ⟨b_l, 2, none⟩ = some (.slice tl.a2 tl.n2 tl.c2)) ∧ (w'.cell? ⟨b_t, 0, none⟩ = some (.bool tt.s) ∧ w'.cell? ⟨b_t, 1, none⟩ = some (.slice tt.a1 tt.n1 tt.c1) ∧ w'.cell? ⟨b_t, 2, none⟩ = some (.slice tt.a2 tt.n2 tt.c2))) xw_2 := unhide HCC2 _ cc_2
    refine hK.out _ _ (fun _ => hC_2) ?_
    clear hK K
    (try simp only [Act.put, List.setIfInBounds_toArray, List.set_cons_zero, List.set_cons_succ])
    refine wpTill_one (k := 6) (by kernel_rfl) rfl (fun K hK => ?_)
    (try simp only [List.getElem_toArray, List.getElem_cons_succ, List.getElem_cons_zero])
    go_simp
    refine (addR_any _ _ _ _ _ (hv_1.below hb_2) hv_2 JJ (unhide HRA) (unhide HRB) (unhide HJ)).mono ?_
    rintro e xw_3 ⟨xv_3, rfl, hv_3, hb_3⟩
    have cc_3 := below_step cc_2 hb_3
    have hC_3 : (fun w' : World => (w'.cell? ⟨b_f, 0, none⟩ = some (.bool tf.s) ∧ w'.cell? ⟨b_f, 1, none⟩ = some (.slice tf.a1 tf.n1 tf.c1) ∧ w'.cell? ⟨b_f, 2, none⟩ = some (.slice tf.a2 tf.n2 tf.c2)) ∧ (w'.cell? ⟨bn, 0, none⟩ = some (.bool tn.s) ∧ w'.cell? ⟨bn, 1, none⟩ = some (.slice tn.a1 tn.n1 tn.c1) ∧ w'.cell? ⟨bn, 2, none⟩ = some (.slice tn.a2 tn.n2 tn.c2)) ∧ (w'.cell? ⟨b_p, 0, none⟩ = some (.bool tp.s) ∧ w'.cell? ⟨b_p, 1, none⟩ = some (.slice tp.a1 tp.n1 tp.c1) ∧ w'.cell? ⟨b_p, 2, none⟩ = some (.slice tp.a2 tp.n2 tp.c2)) ∧ (w'.cell? ⟨b_l, 0, none⟩ = some (.bool tl.s) ∧ w'.cell? ⟨b_l, 1, none⟩ = some (.slice tl.a1 tl.n1 tl.c1) ∧ w'.cell? ⟨b_l, 2, none⟩ = some (.slice tl.a2 tl.n2 tl.c2)) ∧ (w'.cell? ⟨b_t, 0, none⟩ = some (.bool tt.s) ∧ w'.cell? ⟨b_t, 1, none⟩ = some (.slice tt.a1 tt.n1 tt.c1) ∧ w'.cell? ⟨b_t, 2, none⟩ = some (.slice tt.a2 tt.n2 tt.c2))) xw_3 := unhide HCC2 _ cc_3
    refine hK.out _ _ (fun _ => hC_3) ?_
    clear hK K
    (try simp only [Act.put, List.setIfInBounds_toArray, List.set_cons_zero, List.set_cons_succ])
    refine wpTill_one (k := 8) (by kernel_rfl) rfl (fun K hK => ?_)
    (try simp only [List.getElem_toArray, List.getElem_cons_succ, List.getElem_cons_zero])
    go_simp
    refine (rdivided_any _ tt.val _ _ _ hv_3 ((unhide HTT).below cc_3) JJ (unhide HRC) (unhide HRT) (unhide HJ) (unhide HNZ)).mono ?_
    rintro e xw_4 ⟨xv_4, rfl, hv_4, hb_4⟩
    have cc_4 := below_step cc_3 hb_4
    have hC_4 : (fun w' : World => (w'.cell? ⟨b_f, 0, none⟩ = some (.bool tf.s) ∧ w'.cell? ⟨b_f, 1, none⟩ = some (.slice tf.a1 tf.n1 tf.c1) ∧ w'.cell? ⟨b_f, 2, none⟩ = some (.slice tf.a2 tf.n2 tf.c2)) ∧ (w'.cell? ⟨bn, 0, none⟩ = some (.bool tn.s) ∧ w'.cell? ⟨bn, 1, none⟩ = some (.slice tn.a1 tn.n1 tn.c1) ∧ w'.cell? ⟨bn, 2, none⟩ = some (.slice tn.a2 tn.n2 tn.c2)) ∧ (w'.cell? ⟨b_p, 0, none⟩ = some (.bool tp.s) ∧ w'.cell? ⟨b_p, 1, none⟩ = some (.slice tp.a1 tp.n1 tp.c1) ∧ w'.cell? ⟨b_p, 2, none⟩ = some (.slice tp.a2 tp.n2 tp.c2)) ∧ (w'.cell? ⟨b_l, 0, none⟩ = some (.bool tl.s) ∧ w'.cell? ⟨b_l, 1, none⟩ = some (.slice tl.a1 tl.n1 tl.c1) ∧ w'.cell? ⟨b_l, 2, none⟩ = some (.slice tl.a2 tl.n2 tl.c2)) ∧ (w'.cell? ⟨b_t, 0, none⟩ = some (.bool tt.s) ∧ w'.cell? ⟨b_t, 1, none⟩ = some (.slice tt.a1 tt.n1 tt.c1) ∧ w'.cell? ⟨b_t, 2, none⟩ = some (.slice tt.a2 tt.n2 tt.c2))) xw_4 := unhide HCC2 _ cc_4
    refine hK.out _ _ (fun _ => hC_4) ?_
    clear hK K
    (try simp only [Act.put, List.setIfInBounds_toArray, List.set_cons_zero, List.set_cons_succ])
    obtain ⟨t5, rfl, r5⟩ := tri_of hv_4
    simp only [Tri.val]
    have Y := unhide HX_R _ (below_step (unhide HY_bn) cc_4)
    have ⟨l0, l1, l2⟩ := Y.free
    have ⟨y0, y1, y2⟩ := Y.cells _ (Below.refl _ _)
    have FIN := Y.set r5
    have FB := (((unhide HBW _ (below_step (unhide HY_bn) cc_4)).setCell (p := ⟨b_R, 0, none⟩) (unhide HG_R) (.bool t5.s)).setCell (p := ⟨b_R, 1, none⟩) (unhide HG_R) (.slice t5.a1 t5.n1 t5.c1)).setCell (p := ⟨b_R, 2, none⟩) (unhide HG_R) (.slice t5.a2 t5.n2 t5.c2)
    obtain ⟨Wf, hWf⟩ : ∃ W, ((xw_4.setCell ⟨b_R, 0, none⟩ (.bool t5.s)).setCell ⟨b_R, 1, none⟩ (.slice t5.a1 t5.n1 t5.c1)).setCell ⟨b_R, 2, none⟩ (.slice t5.a2 t5.n2 t5.c2) = W := ⟨_, rfl⟩
    rw [hWf] at FIN FB
    have HFIN := hide FIN
    have HFB := hide FB
    clear Y FIN FB
    refine wpTill_one (k := 9) (by kernel_rfl) rfl (fun K hK => ?_)
    (try simp only [List.getElem_toArray, List.getElem_cons_succ, List.getElem_cons_zero])
    go_simp
    refine hK.out _ _ (fun h => absurd (h.symm.trans (by kernel_rfl)) Bool.false_ne_true) ?_
    clear hK K
    (try simp only [Act.put, List.setIfInBounds_toArray, List.set_cons_zero, List.set_cons_succ])
    refine wpTill_done (by kernel_rfl) ?_ _
    have ⟨x0, x1, x2⟩ := (unhide HFIN).cells _ (Below.refl _ _)
    go_wp2
    (try simp only [Exit.inBlock, Exit.then])
    exact bodyPost_ret (v := .agg #[.bool t5.s, .slice t5.a1 t5.n1 t5.c1, .slice t5.a2 t5.n2 t5.c2]) (by simp [results, Tryd.results72, go_sem, x0, x1, x2]) rfl ⟨_, rfl, (unhide HFIN).2, unhide HFB⟩

end Go.Proofs.YtpopcfclpemlaaaDoor
