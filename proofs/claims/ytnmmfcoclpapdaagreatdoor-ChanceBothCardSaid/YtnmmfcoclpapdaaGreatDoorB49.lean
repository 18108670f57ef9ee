/- Shares and Trim, the program's and the document's. -/
import Derived.Test.YtnmmfcoclpapdaaGreatDoorB43
import Derived.Test.YtnmmfcoclpapdaaGreatDoorA17
import Derived.Test.YtnmmfcoclpapdaaGreatDoorA18
import Derived.Laws.CopyOwn
namespace Go.Proofs.YtnmmfcoclpapdaaGreatDoor
open Go.RowKit Go.Sort Go.Shelf

theorem list_of {α : Type} [Inhabited α] {P : Nat → α → Prop} : ∀ {n : Nat}, (∀ j, j < n → ∃ x, P j x) → ∃ l : List α, l.length = n ∧ ∀ j, j < n → P j l[j]!
  | 0, _ => ⟨[], rfl, fun j hj => absurd hj (Nat.not_lt_zero _)⟩
  | n + 1, h => by
    obtain ⟨l, hl, hp⟩ := list_of (n := n) (fun j hj => h j (by omega))
    obtain ⟨x, hx⟩ := h n (by omega)
    refine ⟨l ++ [x], by simp [hl], fun j hj => ?_⟩
    by_cases e : j < n
    · have : (l ++ [x])[j]! = l[j]! := by rw [List.getElem!_eq_getElem?_getD, List.getElem!_eq_getElem?_getD, List.getElem?_append_left (by omega)]
      rw [this]; exact hp j e
    · have e : j = l.length := by omega
      subst e
      have : (l ++ [x])[l.length]! = x := by rw [List.getElem!_eq_getElem?_getD, List.getElem?_append_right (Nat.le_refl _), Nat.sub_self]; rfl
      rw [this, hl]; exact hx
theorem addr_plus (b o j : Nat) : (⟨b, o, none⟩ : Addr).add j = ⟨b, o + j, none⟩ := by
  by_cases hj : j = 0
  · subst hj; simp [Addr.add]
  · simp [Addr.add, hj]
theorem run_copy_three {P : Program} (w : World) (dT sT ty elem : TypeId) (g n dCap : Nat) (a : Addr) (sCap : Nat) (cur : Array Value) (t : TypeId) (cs : List Value)
    (hu : P.underlying dT = some (.slice elem)) (hs : (P.info? elem).map (·.size) = some 3) (hg : w.heap[g]? = some (.cells cur t (0, 0))) (hn : cs.length = n * 3)
    (hsrc : ∀ j v, cs[j]? = some v → w.cell? (a.add j) = some v) (hfit : cs.length ≤ cur.size) (h1 : ∀ v ∈ cs, v.oneCell' = true) :
    (Builtin.copy_ #[dT, sT] ty #[.slice (some ⟨g, 0, none⟩) n dCap, .slice (some a) n sCap]).run P w = .ok (goInt n) (w.setRow g (cs ++ cur.toList.drop cs.length).toArray) := by
  have hl := run_loadCells_list (P := P) w a cs hsrc
  have hst := run_storeCells_at P g 0 t cs 0 cur w hg (by simpa using hfit) h1
  rw [hn] at hl
  cases hq : P.info? elem with
  | none => simp [hq] at hs
  | some i =>
    have hi : i.size = 3 := by simpa [hq] using hs
    simp [Builtin.copy_, run_underlying hu, Builtin.lenOf, Builtin.firstCells, sizeOf, typeInfo, hq, hi, hl, hst]
theorem Tryz.size3 : (Tryz.prog.info? 27).map (·.size) = some 3 := by kernel_rfl
theorem setRow_grown (w : World) (g : Nat) (cs : Array Value) : w.grownBy (w.setRow g cs) (some g) :=
  ⟨rfl, rfl, rfl, by simp [World.setRow], fun k hk hne => setRow_other w g k cs (fun e => hne (by rw [e]))⟩
theorem tlen_pos' (qs : List Rat) : ∀ {n}, 0 < n → 0 < tlen qs n
  | 0, h => absurd h (by decide)
  | 1, _ => Nat.one_pos
  | n + 2, _ => by
    unfold tlen
    split
    · exact tlen_pos' qs (by omega)
    · omega
/-- A law copied into a new row. -/
theorem copy3_law {w W : World} {g n c : Nat} {a : Option Addr} {qs : List Rat} (own : SumsAt w W g (List.replicate n zTri) (List.replicate n 0)) (hn : 0 < n) (hc : n ≤ 1000000) (h : LawIs W (.slice a n c) qs) (hl : qs.length = n) :
    ∃ W', (Builtin.copy_ #[72, 72] 3 #[.slice (some ⟨g, 0, none⟩) n n, .slice a n c]).run Tryz.prog W = .ok (.int .i64 n) W' ∧ LawIs W' (.slice (some ⟨g, 0, none⟩) n n) qs ∧ Below w.heap.size w W' := by
  obtain ⟨a', c', e, h1, h2, h3⟩ := h
  injection e with e1 e2 e3
  subst e1 e3
  obtain ⟨b, o, rfl, hlt, hcs⟩ := h3 (by omega)
  obtain ⟨us, hul, hus⟩ := list_of (α := Tri) (n := n) (P := fun j t => W.cell? ⟨b, o + j * 3, none⟩ = some (.bool t.s) ∧ W.cell? ⟨b, o + j * 3 + 1, none⟩ = some (.slice t.a1 t.n1 t.c1) ∧ W.cell? ⟨b, o + j * 3 + 2, none⟩ = some (.slice t.a2 t.n2 t.c2) ∧ RatIs W t.val qs[j]!) (fun j hj => by
    obtain ⟨s, a1, a2, n1, c1, n2, c2, k0, k1, k2, r⟩ := hcs j (by omega)
    exact ⟨⟨s, a1, a2, n1, c1, n2, c2⟩, k0, k1, k2, r⟩)
  have hlen : (tcells us).length = n * 3 := by rw [tcells_length, hul]
  have hsz : (tcells (List.replicate n zTri)).toArray.size = n * 3 := by simp [tcells_length]
  have hr := run_copy_three (P := Tryz.prog) W 72 72 3 27 g n n ⟨b, o, none⟩ c _ _ (tcells us) Tryz.underlying72 Tryz.size3 own.row hlen
    (fun j v hv => by
      have hj : j < n * 3 := by
        rcases Nat.lt_or_ge j (n * 3) with h | h
        · exact h
        · rw [List.getElem?_eq_none (by rw [hlen]; exact h)] at hv; cases hv
      obtain ⟨q, r, rfl, hr3⟩ : ∃ q r, j = q * 3 + r ∧ r < 3 := ⟨j / 3, j % 3, by omega, by omega⟩
      rw [tcells_get us q r (by omega) hr3] at hv
      obtain ⟨k0, k1, k2, _⟩ := hus q (by omega)
      have ea : ((⟨b, o, none⟩ : Addr).add (q * 3 + r)) = ⟨b, o + q * 3 + r, none⟩ := by rw [addr_plus, Nat.add_assoc]
      rw [ea]
      match r, hr3 with
      | 0, _ => rw [Nat.add_zero, k0]; exact hv
      | 1, _ => rw [k1]; exact hv
      | 2, _ => rw [k2]; exact hv)
    (by rw [hlen, hsz]; exact Nat.le_refl _)
    (fun v hv => by
      obtain ⟨t, _, ht⟩ := List.mem_flatMap.1 hv
      exact tri_one t v ht)
  have hd : ((tcells (List.replicate n zTri)).toArray.toList.drop (tcells us).length) = [] := List.drop_eq_nil_of_le (by rw [hlen]; simp [tcells_length])
  rw [hd, List.append_nil] at hr
  have hb := below_setRow own.bl own.gl (tcells us).toArray
  have hno : ∀ k, (some g : Option Nat) = some k → Wordless W k := fun k e => by
    obtain rfl := Option.some.inj e
    exact sums_wordless own
  have S : SumsAt w (W.setRow g (tcells us).toArray) g us qs := ⟨setRow_heap _ _ _ _ _ _ own.row, by omega, fun j hj => (hus j (by omega)).2.2.2.far (setRow_grown W g _) hno, hb, own.gl⟩
  have L := S.law (by omega)
  rw [hul] at L
  exact ⟨_, hr, L, hb⟩
set_option maxHeartbeats 8000000 in
set_option maxRecDepth 100000 in
set_option linter.unusedSimpArgs false in
theorem trim_any (v : Value) (qs : List Rat) (w : World) (h : LawIs w v qs) (hp : 0 < qs.length) (hc : qs.length ≤ 1000) :
    Calls Tryz.prog 50 #[v] w fun e w' => ∃ v, e = .returned v ∧ LawIs w' v (qs.take (tlen qs qs.length)) ∧ Below w.heap.size w w' := by
  have h' := h
  obtain ⟨a, c, rfl, -⟩ := h'
  obtain ⟨m, hm⟩ : ∃ m, tlen qs qs.length = m := ⟨_, rfl⟩
  have hml : m ≤ qs.length := by rw [← hm]; exact tlen_le qs _
  have hm0 : 0 < m := by rw [← hm]; exact tlen_pos' qs hp
  have HT := hide (trimmedL_any a c qs w h hp)
  rw [hm] at HT ⊢
  have HL := hide (h.take m hml)
  have htl : (qs.take m).length = m := by rw [List.length_take]; omega
  have HTL := hide htl
  have HM := hide (And.intro hm0 (show m ≤ 1000 by omega))
  clear h hp hc hm hml hm0 htl
  go_enter Tryz.func50, Tryz.ntmps50
  go_wp2_with fail
  refine (unhide HT).mono ?_
  rintro e w1 ⟨rfl, hb1⟩
  have qmk := make_tri (m : Int) (by omega) (by have := (unhide HM).2; omega) w1
  have S0 := SumsAt.start w w1 m hb1
  have bA := abelow w1 (.cells (tcells (List.replicate m zTri)).toArray 27)
  have e1 : (m : Int).toNat = m := by omega
  rw [e1] at qmk
  obtain ⟨W2, hW2⟩ : ∃ W, w1.alloc (.cells (tcells (List.replicate m zTri)).toArray 27) = W := ⟨_, rfl⟩
  obtain ⟨g, hg⟩ : ∃ g, w1.heap.size = g := ⟨_, rfl⟩
  rw [hW2, hg] at qmk S0
  rw [hW2] at bA
  obtain ⟨W3, qcp, hL3, hB3⟩ := copy3_law S0 (unhide HM).1 (by have := (unhide HM).2; omega) (((unhide HL).below hb1).below bA) (unhide HTL)
  have HL3 := hide hL3
  have HB3 := hide hB3
  clear hb1 S0 bA hW2 hg hL3 hB3 e1 HT
  go_wp2
  (try go_ret)
  exact ⟨_, rfl, unhide HL3, unhide HB3⟩
set_option maxHeartbeats 8000000 in
set_option maxRecDepth 100000 in
set_option linter.unusedSimpArgs false in
theorem shares_any (v : Value) (qs : List Rat) (J : Nat) (p : Int) (w : World) (h : LawIs w v qs) (hq : ∀ j, j < qs.length → RS qs[j]! J) (hJ : (qs.length * (J + 1) + 1 + J) + (qs.length * (J + 1) + 1 + J) + 1 ≤ KK) :
    Calls Tryz.prog 46 #[v, .int .i64 p] w fun e w' => e = .returned (errV (if (qs.length : Int) = p then chk qs else 3)) ∧ Below w.heap.size w w' := by
  have HC := hide (check_any v qs J w h hq hJ)
  obtain ⟨a, c, rfl, -⟩ := h
  obtain ⟨n, hn⟩ : ∃ n, qs.length = n := ⟨_, rfl⟩
  rw [hn] at HC ⊢
  clear hq hJ hn
  by_cases hp : (n : Int) = p
  · rw [if_pos hp]
    have e1 : ((n : Int) != p) = false := by simpa using hp
    clear hp
    go_enter Tryz.func46, Tryz.ntmps46
    go_wp2_with fail
    refine (unhide HC).mono ?_
    rintro e w1 ⟨rfl, hb1⟩
    go_wp2
    go_ret
    exact ⟨rfl, hb1⟩
  · rw [if_neg hp]
    have e1 : ((n : Int) != p) = true := by simpa using hp
    clear hp
    go_enter Tryz.func46, Tryz.ntmps46
    go_wp2
    go_ret
    exact ⟨rfl, Below.refl _ _⟩
set_option maxHeartbeats 8000000 in
set_option maxRecDepth 100000 in
set_option linter.unusedSimpArgs false in
theorem refShares_any (v : Value) (qs : List Rat) (J : Nat) (p : Int) (w : World) (h : RList w v qs) (hq : ∀ j, j < qs.length → RS qs[j]! J) (hJ : qs.length * (J + 1) + 1 + J ≤ 399999) :
    Calls Tryz.prog 47 #[v, .int .i64 p] w fun e w' => e = .returned (.int .i64 (if (qs.length : Int) = p then chk qs else 3)) ∧ Below w.heap.size w w' := by
  have HC := hide (refLawCheck_any v qs J w h hq hJ)
  obtain ⟨a, c, rfl, -⟩ := h
  obtain ⟨n, hn⟩ : ∃ n, qs.length = n := ⟨_, rfl⟩
  rw [hn] at HC ⊢
  obtain ⟨k, hk⟩ : ∃ k, chk qs = k := ⟨_, rfl⟩
  rw [hk] at HC ⊢
  clear hq hJ hn hk
  by_cases hp : (n : Int) = p
  · rw [if_pos hp]
    have e1 : ((n : Int) != p) = false := by simpa using hp
    clear hp
    go_enter Tryz.func47, Tryz.ntmps47
    go_wp2_with fail
    refine (unhide HC).mono ?_
    rintro e w1 ⟨rfl, hb1⟩
    go_wp2
    go_ret
    exact ⟨rfl, hb1⟩
  · rw [if_neg hp]
    have e1 : ((n : Int) != p) = true := by simpa using hp
    clear hp
    go_enter Tryz.func47, Tryz.ntmps47
    go_wp2
    go_ret
    exact ⟨rfl, Below.refl _ _⟩
end Go.Proofs.YtnmmfcoclpapdaaGreatDoor
