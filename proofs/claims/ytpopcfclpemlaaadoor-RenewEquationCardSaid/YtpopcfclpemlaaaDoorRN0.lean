/- Renewals: what is taken from elsewhere; the law of ages in a row of fractions. -/
import Derived.Test.YtpopcfclpemlaaaDoorM80
import Derived.Test.YtpopcfclpemlaaaDoorWB
import Derived.Test.YtpopcfclpemlaaaDoorT10
import Derived.Laws.CopyOwn
namespace Go.Proofs.YtpopcfclpemlaaaDoor
open Go.RowKit Go.Sort Go.Shelf

/-- A law's cells, by its length. -/
theorem LawIs.open {w : World} {l : Sl} {qs : List Rat} {n : Nat} (h : LawIs w l.val qs) (hl : qs.length = n) (hp : 0 < n) : ∃ b o, l.a = some ⟨b, o, none⟩ ∧ b < w.heap.size ∧ ∀ j, j < n → ∃ t : Tri, w.cell? ⟨b, o + j * 3, none⟩ = some (.bool t.s) ∧ w.cell? ⟨b, o + j * 3 + 1, none⟩ = some (.slice t.a1 t.n1 t.c1) ∧ w.cell? ⟨b, o + j * 3 + 2, none⟩ = some (.slice t.a2 t.n2 t.c2) ∧ RatIs w t.val qs[j]! := by
  obtain ⟨a, c, e, _, _, h3⟩ := h
  obtain ⟨b, o, ea, hlt, hc⟩ := h3 (by omega)
  have e1 : l.a = a := by injection e
  refine ⟨b, o, by rw [e1, ea], hlt, fun j hj => ?_⟩
  obtain ⟨s, a1, a2, n1, c1, n2, c2, k0, k1, k2, r⟩ := hc j (by omega)
  exact ⟨⟨s, a1, a2, n1, c1, n2, c2⟩, k0, k1, k2, r⟩
theorem KK_is : KK = 1099511627776 := rfl
/-- A fresh row of fractions. -/
def RowPost (w : World) (qs : List Rat) (e : Ending) (w' : World) : Prop := ∃ g n, e = .returned (.slice (some ⟨g, 0, none⟩) n n) ∧ n = qs.length ∧ w.heap.size ≤ g ∧ LawIs w' (.slice (some ⟨g, 0, none⟩) n n) qs ∧ Below w.heap.size w w'
theorem SumsAt.rebase {w w1 wr : World} {g : Nat} {us : List Tri} {qs : List Rat} (h : SumsAt w1 wr g us qs) (hb : Below w.heap.size w w1) : SumsAt w wr g us qs :=
  ⟨h.row, h.len, h.rat, below_step hb h.bl, Nat.le_trans hb.size h.gl⟩
theorem LawIs.cap {w : World} {l : Sl} {qs : List Rat} {n : Nat} (h : LawIs w l.val qs) (e : qs.length = n) : n ≤ l.c ∧ l.c ≤ 9223372036854775807 := by
  obtain ⟨a, c, e', i1, i2, _⟩ := h
  have e1 : l.c = c := by injection e'
  rw [e1]; exact ⟨by omega, i2⟩
theorem row_setq {f g : Nat → Rat} {n j : Nat} {v : Rat} (hj : j < n) (h1 : g j = v) (h2 : ∀ i, i < n → i ≠ j → g i = f i) : (row f n).set j v = row g n := by
  refine row_eq (by rw [List.length_set, row_length]) (fun i hi => ?_)
  rw [List.getElem!_eq_getElem?_getD, List.getElem?_set]
  by_cases e : j = i
  · subst e
    rw [if_pos rfl, if_pos (by rw [row_length]; exact hj)]
    exact h1.symm
  · rw [if_neg e, ← List.getElem!_eq_getElem?_getD, row_get hi]
    exact (h2 i hi (Ne.symm e)).symm
theorem abelow (w : World) (o : Obj) : Below w.heap.size w (w.alloc o) := (Below.refl _ _).alloc (Nat.le_refl _) _
theorem list_of {α : Type} [Inhabited α] {P : Nat → α → Prop} : ∀ {n : Nat}, (∀ j, j < n → ∃ x, P j x) → ∃ l : List α, l.length = n ∧ ∀ j, j < n → P j l[j]!
  | 0, _ => ⟨[], rfl, fun j hj => absurd hj (Nat.not_lt_zero _)⟩
  | n + 1, h => by
    obtain ⟨l, hl, hp⟩ := list_of (n := n) (fun j hj => h j (by omega))
    obtain ⟨x, hx⟩ := h n (by omega)
    refine ⟨l ++ [x], by simp [hl], fun j hj => ?_⟩
    by_cases e : j < n
    · have : (l ++ [x])[j]! = l[j]! := by rw [List.getElem!_eq_getElem?_getD, List.getElem!_eq_getElem?_getD, List.getElem?_append_left (by omega)]
      rw [this]; exact hp j e
    · have e : j = l.length := by omega
      subst e
      have : (l ++ [x])[l.length]! = x := by rw [List.getElem!_eq_getElem?_getD, List.getElem?_append_right (Nat.le_refl _), Nat.sub_self]; rfl
      rw [this, hl]; exact hx
theorem addr_plus (b o j : Nat) : (⟨b, o, none⟩ : Addr).add j = ⟨b, o + j, none⟩ := by
  by_cases hj : j = 0
  · subst hj; simp [Addr.add]
  · simp [Addr.add, hj]
theorem run_copy_three {P : Program} (w : World) (dT sT ty elem : TypeId) (g n dCap : Nat) (a : Addr) (sCap : Nat) (cur : Array Value) (t : TypeId) (cs : List Value)
    (hu : P.underlying dT = some (.slice elem)) (hs : (P.info? elem).map (·.size) = some 3) (hg : w.heap[g]? = some (.cells cur t (0, 0))) (hn : cs.length = n * 3)
    (hsrc : ∀ j v, cs[j]? = some v → w.cell? (a.add j) = some v) (hfit : cs.length ≤ cur.size) (h1 : ∀ v ∈ cs, v.oneCell' = true) :
    (Builtin.copy_ #[dT, sT] ty #[.slice (some ⟨g, 0, none⟩) n dCap, .slice (some a) n sCap]).run P w = .ok (goInt n) (w.setRow g (cs ++ cur.toList.drop cs.length).toArray) := by
  have hl := run_loadCells_list (P := P) w a cs hsrc
  have hst := run_storeCells_at P g 0 t cs 0 cur w hg (by simpa using hfit) h1
  rw [hn] at hl
  cases hq : P.info? elem with
  | none => simp [hq] at hs
  | some i =>
    have hi : i.size = 3 := by simpa [hq] using hs
    simp [Builtin.copy_, run_underlying hu, Builtin.lenOf, Builtin.firstCells, sizeOf, typeInfo, hq, hi, hl, hst]
theorem Tryd.size3 : (Tryd.prog.info? 31).map (·.size) = some 3 := by kernel_rfl
theorem setRow_grown (w : World) (g : Nat) (cs : Array Value) : w.grownBy (w.setRow g cs) (some g) :=
  ⟨rfl, rfl, rfl, by simp [World.setRow], fun k hk hne => setRow_other w g k cs (fun e => hne (by rw [e]))⟩
theorem tlen_pos' (qs : List Rat) : ∀ {n}, 0 < n → 0 < tlen qs n
  | 0, h => absurd h (by decide)
  | 1, _ => Nat.one_pos
  | n + 2, _ => by
    unfold tlen
    split
    · exact tlen_pos' qs (by omega)
    · omega
/-- A law copied into a new row. -/
theorem copy3_law {w W : World} {g n c : Nat} {a : Option Addr} {qs : List Rat} (own : SumsAt w W g (List.replicate n zTri) (List.replicate n 0)) (hn : 0 < n) (hc : n ≤ 1000000) (h : LawIs W (.slice a n c) qs) (hl : qs.length = n) :
    ∃ W', (Builtin.copy_ #[60, 60] 3 #[.slice (some ⟨g, 0, none⟩) n n, .slice a n c]).run Tryd.prog W = .ok (.int .i64 n) W' ∧ LawIs W' (.slice (some ⟨g, 0, none⟩) n n) qs ∧ Below w.heap.size w W' := by
  obtain ⟨a', c', e, h1, h2, h3⟩ := h
  injection e with e1 e2 e3
  subst e1 e3
  obtain ⟨b, o, rfl, hlt, hcs⟩ := h3 (by omega)
  obtain ⟨us, hul, hus⟩ := list_of (α := Tri) (n := n) (P := fun j t => W.cell? ⟨b, o + j * 3, none⟩ = some (.bool t.s) ∧ W.cell? ⟨b, o + j * 3 + 1, none⟩ = some (.slice t.a1 t.n1 t.c1) ∧ W.cell? ⟨b, o + j * 3 + 2, none⟩ = some (.slice t.a2 t.n2 t.c2) ∧ RatIs W t.val qs[j]!) (fun j hj => by
    obtain ⟨s, a1, a2, n1, c1, n2, c2, k0, k1, k2, r⟩ := hcs j (by omega)
    exact ⟨⟨s, a1, a2, n1, c1, n2, c2⟩, k0, k1, k2, r⟩)
  have hlen : (tcells us).length = n * 3 := by rw [tcells_length, hul]
  have hsz : (tcells (List.replicate n zTri)).toArray.size = n * 3 := by simp [tcells_length]
  have hr := run_copy_three (P := Tryd.prog) W 60 60 3 31 g n n ⟨b, o, none⟩ c _ _ (tcells us) Tryd.underlying60 Tryd.size3 own.row hlen
    (fun j v hv => by
      have hj : j < n * 3 := by
        rcases Nat.lt_or_ge j (n * 3) with h | h
        · exact h
        · rw [List.getElem?_eq_none (by rw [hlen]; exact h)] at hv; cases hv
      obtain ⟨q, r, rfl, hr3⟩ : ∃ q r, j = q * 3 + r ∧ r < 3 := ⟨j / 3, j % 3, by omega, by omega⟩
      rw [tcells_get us q r (by omega) hr3] at hv
      obtain ⟨k0, k1, k2, _⟩ := hus q (by omega)
      have ea : ((⟨b, o, none⟩ : Addr).add (q * 3 + r)) = ⟨b, o + q * 3 + r, none⟩ := by rw [addr_plus, Nat.add_assoc]
      rw [ea]
      match r, hr3 with
      | 0, _ => rw [Nat.add_zero, k0]; exact hv
      | 1, _ => rw [k1]; exact hv
      | 2, _ => rw [k2]; exact hv)
    (by rw [hlen, hsz]; exact Nat.le_refl _)
    (fun v hv => by
      obtain ⟨t, _, ht⟩ := List.mem_flatMap.1 hv
      exact tri_one t v ht)
  have hd : ((tcells (List.replicate n zTri)).toArray.toList.drop (tcells us).length) = [] := List.drop_eq_nil_of_le (by rw [hlen]; simp [tcells_length])
  rw [hd, List.append_nil] at hr
  have hb := below_setRow own.bl own.gl (tcells us).toArray
  have hno : ∀ k, (some g : Option Nat) = some k → Wordless W k := fun k e => by
    obtain rfl := Option.some.inj e
    exact sums_wordless own
  have S : SumsAt w (W.setRow g (tcells us).toArray) g us qs := ⟨setRow_heap _ _ _ _ _ _ own.row, by omega, fun j hj => (hus j (by omega)).2.2.2.far (setRow_grown W g _) hno, hb, own.gl⟩
  have L := S.law (by omega)
  rw [hul] at L
  exact ⟨_, hr, L, hb⟩
set_option maxHeartbeats 8000000 in
set_option maxRecDepth 100000 in
set_option linter.unusedSimpArgs false in
theorem trim_any (v : Value) (qs : List Rat) (w : World) (h : LawIs w v qs) (hp : 0 < qs.length) (hc : qs.length ≤ 1000) :
    Calls Tryd.prog 89 #[v] w fun e w' => ∃ v, e = .returned v ∧ LawIs w' v (qs.take (tlen qs qs.length)) ∧ Below w.heap.size w w' := by
  have h' := h
  obtain ⟨a, c, rfl, -⟩ := h'
  obtain ⟨m, hm⟩ : ∃ m, tlen qs qs.length = m := ⟨_, rfl⟩
  have hml : m ≤ qs.length := by rw [← hm]; exact tlen_le qs _
  have hm0 : 0 < m := by rw [← hm]; exact tlen_pos' qs hp
  have HT := hide (trimmedL_any a c qs w h hp)
  rw [hm] at HT ⊢
  have HL := hide (h.take m hml)
  have htl : (qs.take m).length = m := by rw [List.length_take]; omega
  have HTL := hide htl
  have HM := hide (And.intro hm0 (show m ≤ 1000 by omega))
  clear h hp hc hm hml hm0 htl
  go_enter Tryd.func89, Tryd.ntmps89
  go_wp2_with fail
  refine (unhide HT).mono ?_
  rintro e w1 ⟨rfl, hb1⟩
  have qmk := make_tri (m : Int) (by omega) (by have := (unhide HM).2; omega) w1
  have S0 := SumsAt.start w w1 m hb1
  have bA := abelow w1 (.cells (tcells (List.replicate m zTri)).toArray 31)
  have e1 : (m : Int).toNat = m := by omega
  rw [e1] at qmk
  obtain ⟨W2, hW2⟩ : ∃ W, w1.alloc (.cells (tcells (List.replicate m zTri)).toArray 31) = W := ⟨_, rfl⟩
  obtain ⟨g, hg⟩ : ∃ g, w1.heap.size = g := ⟨_, rfl⟩
  rw [hW2, hg] at qmk S0
  rw [hW2] at bA
  obtain ⟨W3, qcp, hL3, hB3⟩ := copy3_law S0 (unhide HM).1 (by have := (unhide HM).2; omega) (((unhide HL).below hb1).below bA) (unhide HTL)
  have HL3 := hide hL3
  have HB3 := hide hB3
  clear hb1 S0 bA hW2 hg hL3 hB3 e1 HT
  go_wp2
  (try go_ret)
  exact ⟨_, rfl, unhide HL3, unhide HB3⟩
/-- The row's numbers as a function: 0 behind its end. -/
def xq (qs : List Rat) (i : Nat) : Rat := qs[i]!
theorem xq_out {qs : List Rat} {i : Nat} (h : qs.length ≤ i) : xq qs i = 0 := by
  show qs[i]! = 0
  rw [List.getElem!_eq_getElem?_getD, List.getElem?_eq_none h]; rfl
theorem qsum_xq (qs : List Rat) : ∀ k, qsum qs k = Bth.ps (xq qs) k
  | 0 => rfl
  | k + 1 => by show qsum qs k + qs[k]! = _; rw [qsum_xq qs k]; rfl
theorem wsum_ps (qs : List Rat) (F : Nat → Int) : ∀ k, wsum qs F k = Bth.ps (fun j => xq qs j * ((F j : Int) : Rat)) k
  | 0 => rfl
  | k + 1 => by show wsum qs F k + qs[k]! * _ = _; rw [wsum_ps qs F k]; rfl
theorem tlen_zero' (qs : List Rat) : ∀ n j, tlen qs n ≤ j → j < n → qs[j]! = 0
  | 0, _, _, h => absurd h (Nat.not_lt_zero _)
  | 1, j, h, h' => by unfold tlen at h; omega
  | n + 2, j, h, h' => by
    unfold tlen at h
    split at h
    · rename_i hz
      rcases Nat.lt_or_ge j (n + 1) with h1 | h1
      · exact tlen_zero' qs (n + 1) j h h1
      · obtain rfl : j = n + 1 := by omega
        exact Rat.num_eq_zero.1 hz
    · omega
/-- What renew's check says: as Check, and 11 where one may fail at 0. -/
def rnc (qs : List Rat) : Int := if chk qs = 0 then (if 0 < (xq qs 0).num then 11 else 0) else chk qs
theorem rnc_zero {qs : List Rat} (h : rnc qs = 0) : chk qs = 0 ∧ xq qs 0 = 0 := by
  unfold rnc at h
  by_cases hc : chk qs = 0
  · rw [if_pos hc] at h
    refine ⟨hc, ?_⟩
    by_cases h0 : 0 < (xq qs 0).num
    · rw [if_pos h0] at h; exact absurd h (by decide)
    · obtain ⟨a, _, c, _⟩ := chk_zero hc
      have := c 0 a
      exact Rat.num_eq_zero.1 (by show (qs[0]!).num = 0; have h0' : ¬ 0 < (qs[0]!).num := h0; omega)
  · rw [if_neg hc] at h; exact absurd h hc
/-- The greatest age. -/
def gst (qs : List Rat) : Nat := tlen qs qs.length - 1
theorem rnc_age {qs : List Rat} (h : rnc qs = 0) : Rnw.Age (xq qs) (gst qs) ∧ gst qs + 1 = tlen qs qs.length ∧ gst qs + 1 ≤ qs.length ∧ qs.length ≤ 101 := by
  obtain ⟨hc, h0⟩ := rnc_zero h
  obtain ⟨a, b, c, d⟩ := chk_zero hc
  have t1 := tlen_pos' qs a
  have t2 := tlen_le qs qs.length
  have e : gst qs + 1 = tlen qs qs.length := by unfold gst; omega
  have hout : ∀ j, gst qs < j → xq qs j = 0 := fun j hj => by
    rcases Nat.lt_or_ge j qs.length with h1 | h1
    · exact tlen_zero' qs qs.length j (by omega) h1
    · exact xq_out h1
  refine ⟨⟨h0, fun j => ?_, ?_, hout⟩, e, by omega, b⟩
  · rcases Nat.lt_or_ge j qs.length with h1 | h1
    · exact Rat.num_nonneg.1 (c j h1)
    · rw [xq_out h1]; exact Rat.le_refl
  · rw [← Rnw.ps_cut (xq qs) (gst qs + 1) qs.length (by omega) (fun j p _ => hout j (by omega)), ← qsum_xq]; exact d
theorem LawIs.parts {w : World} {a : Option Addr} {n c : Nat} {qs : List Rat} (h : LawIs w (.slice a n c) qs) : qs.length = n ∧ n ≤ c ∧ c ≤ 9223372036854775807 ∧ (0 < n → ∃ b o, a = some ⟨b, o, none⟩ ∧ b < w.heap.size ∧ ∀ j, j < n → ∃ t : Tri, w.cell? ⟨b, o + j * 3, none⟩ = some (.bool t.s) ∧ w.cell? ⟨b, o + j * 3 + 1, none⟩ = some (.slice t.a1 t.n1 t.c1) ∧ w.cell? ⟨b, o + j * 3 + 2, none⟩ = some (.slice t.a2 t.n2 t.c2) ∧ RatIs w t.val (xq qs j)) := by
  have h' := h
  obtain ⟨a', c', e, h1, h2, h3⟩ := h
  injection e with e1 e2 e3
  subst e1; subst e3; subst e2
  refine ⟨rfl, h1, h2, fun hp => ?_⟩
  obtain ⟨b, o, ea, hlt, hc⟩ := h3 hp
  refine ⟨b, o, ea, hlt, fun j hj => ?_⟩
  obtain ⟨s, a1, a2, n1, c1, n2, c2, k0, k1, k2, r⟩ := hc j hj
  exact ⟨⟨s, a1, a2, n1, c1, n2, c2⟩, k0, k1, k2, r⟩
end Go.Proofs.YtpopcfclpemlaaaDoor
