/- Whether parts may be carried out: the checker's fits. -/
import Derived.Test.YtepgdlgifempeaaY7
namespace Go.Proofs.Ytepgdlgifempeaa
open Go.RowKit Go.Sort Stb Shp

/-- A row of numbers in a block that may have more room. -/
def OwnC (w : World) (g n : Nat) (lf : Nat → Int) : Prop := ∃ cur : Array Value, w.heap[g]? = some (.cells cur 3) ∧ n ≤ cur.size ∧ ∀ j, j < n → cur[j]? = some (.int .i64 (lf j))
theorem OwnC.lt {w : World} {g n : Nat} {lf : Nat → Int} (h : OwnC w g n lf) : g < w.heap.size := by
  obtain ⟨cur, h1, _⟩ := h
  exact (Array.getElem?_eq_some_iff.1 h1).1
theorem OwnC.keep {w w' : World} {g n : Nat} {lf : Nat → Int} (h : OwnC w g n lf) (hb : Below w.heap.size w w') : OwnC w' g n lf := by
  have hl := h.lt
  obtain ⟨cur, h1, h2⟩ := h
  exact ⟨cur, by rw [hb.block g hl]; exact h1, h2⟩
theorem OwnC.cell {w : World} {g n : Nat} {lf : Nat → Int} (h : OwnC w g n lf) {j : Nat} (hj : j < n) : w.cell? ⟨g, j, none⟩ = some (.int .i64 (lf j)) := by
  obtain ⟨cur, h1, h2, h3⟩ := h
  simp only [World.cell?, h1]
  exact h3 j hj
theorem OwnC.free {w : World} {g n : Nat} {lf : Nat → Int} (h : OwnC w g n lf) (j : Nat) : w.frozen? ⟨g, j, none⟩ = false := by
  obtain ⟨cur, h1, _⟩ := h; simp [World.frozen?, h1]
theorem OwnC.set {w : World} {g n : Nat} {lf : Nat → Int} (h : OwnC w g n lf) {j : Nat} (hj : j < n) (x : Int) : OwnC (w.setCell ⟨g, j, none⟩ (.int .i64 x)) g n (updI lf j x) := by
  obtain ⟨cur, h1, h2, h3⟩ := h
  refine ⟨cur.setIfInBounds j (.int .i64 x), ?_, by simpa using h2, fun i hi => ?_⟩
  · rw [setCell_eq]
    simp only [mapBlock, Array.getElem?_modify, h1, if_true, Option.map_some, onCells]
  · unfold updI
    rw [Array.getElem?_setIfInBounds]
    by_cases c : j = i
    · subst c; rw [if_pos rfl, if_pos (by omega), if_pos rfl]
    · rw [if_neg c, if_neg (Ne.symm c)]; exact h3 i hi
theorem OwnC.congr {w : World} {g n : Nat} {f h : Nat → Int} (k : OwnC w g n f) (e : ∀ j, j < n → f j = h j) : OwnC w g n h := by
  obtain ⟨cur, h1, h2, h3⟩ := k
  exact ⟨cur, h1, h2, fun j hj => by rw [← e j hj]; exact h3 j hj⟩
theorem ownC_of {w : World} {B g n cap : Nat} {lf : Nat → Int} (h : w.ownsRow B 3 1 (.slice (some ⟨g, 0, none⟩) n cap) n (lrow lf n)) : OwnC w g n lf ∧ B ≤ g := by
  obtain ⟨h1, ⟨e, _⟩ | ⟨g', cap', cur, e, hb, hh, hc1, hc2, hs, ht⟩⟩ := h
  · cases e
  · injection e with e1 e2 e3
    obtain rfl : g = g' := by injection e1 with e1; injection e1
    refine ⟨⟨cur, hh, by omega, fun j hj => ?_⟩, hb⟩
    have e : (cur.toList.take (n * 1))[j]? = (lrow lf n)[j]? := by rw [ht]
    rw [List.getElem?_take_of_lt (by omega), lrow_get lf hj] at e
    simpa using e
/-- A block of four cells. -/
def Box4 (T : TypeId) (w : World) (g : Nat) (p : Prt) : Prop := w.heap[g]? = some (.cells #[.int .i64 (p.c : Int), .int .i64 (p.j : Int), .int .i64 p.a, .int .i64 p.b] T)
theorem Box4.lt {T : TypeId} {w : World} {g : Nat} {p : Prt} (h : Box4 T w g p) : g < w.heap.size := (Array.getElem?_eq_some_iff.1 h).1
theorem Box4.keep {T : TypeId} {w w' : World} {g : Nat} {p : Prt} (h : Box4 T w g p) (hb : Below w.heap.size w w') : Box4 T w' g p := by
  unfold Box4; rw [hb.block g h.lt]; exact h
theorem Box4.all {T : TypeId} {w : World} {g : Nat} {p : Prt} (h : Box4 T w g p) : w.cell? ⟨g, 0, none⟩ = some (.int .i64 (p.c : Int)) ∧ w.cell? ⟨g, 1, none⟩ = some (.int .i64 (p.j : Int)) ∧ w.cell? ⟨g, 2, none⟩ = some (.int .i64 p.a) ∧ w.cell? ⟨g, 3, none⟩ = some (.int .i64 p.b) := by
  unfold Box4 at h
  simp only [World.cell?, h]
  exact ⟨rfl, rfl, rfl, rfl⟩
theorem Box4.apart {T : TypeId} {w : World} {g b j : Nat} {p : Prt} {x : Value} (h : Box4 T w g p) (hne : g ≠ b) : Box4 T (w.setCell ⟨b, j, none⟩ x) g p := by
  unfold Box4; rw [Below.heap_setCell _ _ _ _ hne]; exact h
theorem Box4.new (T : TypeId) (w : World) (p : Prt) : Box4 T (w.alloc (.cells #[.int .i64 (p.c : Int), .int .i64 (p.j : Int), .int .i64 p.a, .int .i64 p.b] T)) w.heap.size p := heap_alloc_new w _
/-- What is left of each job behind i parts. -/
def leftV (l : Nat → Int) (ps : List Prt) (i : Nat) : Nat → Int := fun j => l j - jsum j (ps.take i)
theorem leftV_succ {l : Nat → Int} {ps : List Prt} {i : Nat} {p : Prt} (h : ps[i]? = some p) (j : Nat) : leftV l ps (i + 1) j = updI (leftV l ps i) p.j (leftV l ps i p.j - (p.b - p.a)) j := by
  have e : ps.take (i + 1) = ps.take i ++ [p] := by
    rw [List.take_add_one, h]; rfl
  unfold leftV updI
  rw [e, jsum_append]
  show l j - (jsum j (ps.take i) + ((if p.j = j then p.b - p.a else 0) + 0)) = if j = p.j then l p.j - jsum p.j (ps.take i) - (p.b - p.a) else l j - jsum j (ps.take i)
  by_cases c : j = p.j
  · subst c; rw [if_pos rfl, if_pos rfl]; omega
  · rw [if_neg c, if_neg (Ne.symm c)]; omega
theorem Try.infoI' : (Try.prog.info? 3).map (fun i => (i.zero, i.size, i.bytes)) = some (some (.int .i64 0), 1, 8) := by kernel_rfl
theorem one_lrow (lf : Nat → Int) (n : Nat) : ∀ u ∈ lrow lf n, u.oneCell' = true := by
  intro u hu
  unfold lrow at hu
  obtain ⟨j, _, rfl⟩ := List.mem_map.1 hu
  rfl
theorem empty_own (w : World) (B : Nat) (hB : B ≤ w.heap.size) : (w.alloc (.cells #[] 3)).ownsRow B 3 1 (.slice (some ⟨w.heap.size, 0, none⟩) 0 0) 0 [] :=
  ⟨rfl, Or.inr ⟨w.heap.size, 0, #[], rfl, hB, heap_alloc_new w _, Nat.le_refl _, Nat.zero_le _, rfl, rfl⟩⟩
/-- All parts are as they should be. -/
structure FitsAll (n M : Nat) (E : Int) (l : Nat → Int) (ps : List Prt) : Prop where
  fit : Fits n M l E ps
  n60 : n ≤ 60
  len : ps.length ≤ 1000
  Eb : E ≤ 1000000000000
  lb : ∀ j, j < n → 0 ≤ l j ∧ l j ≤ 1000000000
theorem jsum_bd {n M : Nat} {E : Int} {l : Nat → Int} {ps : List Prt} (h : FitsAll n M E l ps) (j : Nat) : ∀ i, 0 ≤ jsum j (ps.take i) ∧ jsum j (ps.take i) ≤ 1000000000000000 := by
  have key : ∀ qs : List Prt, (∀ p ∈ qs, p.a ≤ p.b ∧ p.b ≤ 1000000000000 ∧ 0 ≤ p.a) → 0 ≤ jsum j qs ∧ jsum j qs ≤ 1000000000000 * qs.length := fun qs => by
    induction qs with
    | nil => intro _; show (0 : Int) ≤ 0 ∧ (0 : Int) ≤ 1000000000000 * ((0 : Nat) : Int); omega
    | cons q qs ih =>
      intro hq
      have h1 := ih (fun p hp => hq p (List.mem_cons_of_mem _ hp))
      have h2 := hq q (List.mem_cons_self ..)
      show 0 ≤ (if q.j = j then q.b - q.a else 0) + jsum j qs ∧ (if q.j = j then q.b - q.a else 0) + jsum j qs ≤ 1000000000000 * ((qs.length + 1 : Nat) : Int)
      split <;> omega
  intro i
  have h1 := key (ps.take i) (fun p hp => by
    have := h.fit.each p (List.mem_of_mem_take hp)
    have := h.Eb
    omega)
  have h2 : (ps.take i).length ≤ 1000 := Nat.le_trans (List.length_take_le' ..) h.len
  omega
theorem app_none {P : Program} (w : World) (t ty e : TypeId) (i : TypeInfo) (ht : P.underlying t = some (.slice e)) (hi : P.info? e = some i) (b : Addr) (a : Option Addr) (n cap c : Nat) (hle : n ≤ cap) :
    (Builtin.append_ #[t, t] ty #[.slice (some b) n cap, .slice a 0 c]).run P w = .ok (.slice (some b) n cap) w := by
  cases a <;> simp [Builtin.append_, run_underlying ht, Builtin.lenOf, Builtin.firstCells, sizeOf, typeInfo, hi, hle, storeCells, loadCells, loadCellsFrom]
theorem wpList_append_none {P : Program} (w : World) {ops : Array Oper} {rest : List Oper} {o : Oper} {a : Act} {Q : Exit → Act → World → Prop} (hgd : o.guard = none) (s x : Operand) (t : TypeId)
    (ho : o.op = .call { callee := .builtin .append, args := #[s, x], argTypes := #[t, t] }) (e : TypeId) (i : TypeInfo) (ht : P.underlying t = some (.slice e)) (hi : P.info? e = some i)
    (b : Addr) (n cap : Nat) (hle : n ≤ cap) (hs : a.eval s = .slice (some b) n cap) (ad : Option Addr) (c : Nat) (hx : a.eval x = .slice ad 0 c)
    (h : wpList P ops Q rest (a.put o.dst (.slice (some b) n cap)) w) : wpList P ops Q (o :: rest) a w := by
  refine wpList_plain hgd fun K hK => ?_
  have hr := app_none (P := P) w t o.type e i ht hi b ad n cap c hle
  unfold Oper.wp execOp
  simp only [ho, resolve, invoke, builtin, Sem.run_bind, Sem.run_pure, Result.andThen_ok, List.map_toArray, List.map_cons, List.map_nil, hs, hx, hr]
  exact hK _ _ h
set_option maxHeartbeats 8000000 in
set_option maxRecDepth 100000 in
set_option linter.unusedSimpArgs false in
theorem fits_any (a : Option Addr) (n c M : Nat) (l : Nat → Int) (E : Int) (pa : Option Addr) (pc : Nat) (ps : List Prt) (w : World) (ha : IRow w a n c l) (hp : QRow w pa pc ps) (hF : FitsAll n M E l ps) :
    Calls Try.prog 12 #[.slice a n c, .int .i64 (M : Int), .int .i64 E, .slice pa ps.length pc] w fun e w' => e = .returned (.bool true) ∧ Below w.heap.size w w' := by
  obtain ⟨ti, hi, hz0, hz1, hz2⟩ := info_parts Try.infoI'
  have HI := hide hi
  have HZ := hide hz0
  have HP := hide hp
  have HF := hide hF
  have hn60 := hF.n60
  have hpl := hF.len
  have hpc := hp.1
  have hpc2 := hp.2.1
  have hc1 := ha.1
  have hc2 := ha.2.1
  have HA := hide ha
  clear hi hz0 ha hp
  by_cases hn : n = 0
  · have hps : ps = [] := by
      cases ps with
      | nil => rfl
      | cons p ps => have := (hF.fit.each p (List.mem_cons_self ..)).2.1; omega
    subst hps hn
    have HB := hide (alloc_below w (.cells #[] 3))
    clear HP HF HA hF
    have e0 : ((([] : List Prt).length : Nat) : Int) = 0 := rfl
    simp only [List.length_nil]
    go_enter Try.func12, Try.ntmps12
    go_wp2_with (at_builtin; go_loud (refine wpList_append_none _ rfl _ _ _ rfl 3 ti Try.underlying23 (unhide HI) ⟨w.heap.size, 0, none⟩ 0 0 (Nat.le_refl _) rfl a c rfl ?_))
    obtain ⟨w1, hw1⟩ : ∃ V, w.alloc (.cells #[] 3) = V := ⟨_, rfl⟩
    rw [hw1] at HB ⊢
    clear hw1
    (try go_wp2_with fail)
    go_loopw [10] (fun vi wr => vi = .int .i64 0 ∧ wr = w1) (fun _ _ => 0)
    case atStart => exact ⟨rfl, rfl⟩
    case round =>
      obtain ⟨rfl, rfl⟩ := hrel
      go_wp2_with fail
      (try simp only [Exit.inBlock, Exit.then])
      (try go_wp2_with fail)
      go_loopw [14] (fun vi wv => vi = .int .i64 0 ∧ wv = wr) (fun _ _ => 0)
      case atStart => exact ⟨rfl, rfl⟩
      case round =>
        obtain ⟨rfl, rfl⟩ := hrel
        go_wp2
        (try simp only [Exit.inBlock, Exit.then])
        (try go_wp2)
        go_ret
        exact ⟨rfl, unhide HB⟩
  · obtain ⟨b, o, rfl, hbl, hc⟩ := (unhide HA).2.2 (by omega)
    have O4 := hide (empty_own w w.heap.size (Nat.le_refl _))
    have HNW : Hid (∀ j u, (lrow l n)[j]? = some u → (w.alloc (.cells #[] 3)).cell? ((⟨b, o, none⟩ : Addr).add j) = some u) := fun j u hu => by
      have hj : j < n := by have := (List.getElem?_eq_some_iff.1 hu).1; rw [lrow_length] at this; exact this
      rw [lrow_get l hj] at hu
      rw [Go.WideShapes.add_plain, (alloc_below w (.cells #[] 3)).cell (p := ⟨b, o + j, none⟩) hbl, hc j hj]
      exact hu
    have Q63 : Hid (0 + n ≤ maxLen) := by show _ ≤ _; unfold maxLen; omega
    have Q8 : Hid ((0 + n) * 8 ≤ 140737488355328) := by show _ ≤ _; omega
    have QB := hide (alloc_below w (.cells #[] 3)).size
    have HBA := hide (alloc_below w (.cells #[] 3))
    have hn0 : 0 < n := by omega
    clear hc hF
    go_enter Try.func12, Try.ntmps12
    go_wp2_with (at_builtin; go_loud (refine wpList_append_lies _ rfl _ _ _ rfl w.heap.size 3 ti (.int .i64 0) 1 8 Try.underlying23 (unhide HI) (unhide HZ) hz1 hz2 rfl (by decide) (.slice (some ⟨w.heap.size, 0, none⟩) 0 0) 0 [] rfl (unhide O4) ⟨b, o, none⟩ n c (lrow l n) rfl (by rw [lrow_length, Nat.mul_one]) (unhide HNW) (one_lrow _ _) hn0 (unhide Q63) (unhide Q8) (unhide QB) (w.heap.size + 1) (alloc_size _ _) ?_; intro g cap w1 own5 grow5 hat5 hlt5))
    rw [Nat.zero_add, List.nil_append] at own5
    have HOC := hide (ownC_of own5).1
    have HGE := hide (ownC_of own5).2
    have HB1 := hide (Below.grown (unhide HBA) grow5 (unhide HBA).size (fun k hk => by
      have : w.heap.size = k := by simpa [Value.ownBlock] using hk
      omega))
    (try simp only [Nat.zero_add])
    clear own5 grow5 hat5 hlt5 O4 HNW Q63 Q8 QB HBA hn
    (try go_wp2_with fail)
    go_loopw [10] (fun vi wr => ∃ i : Nat, vi = .int .i64 (i : Int) ∧ i ≤ ps.length ∧ OwnC wr g n (leftV l ps i) ∧ Below w.heap.size w wr) (fun vi _ => ps.length - (intOf vi).toNat)
    case atStart => exact ⟨0, rfl, Nat.zero_le _, (unhide HOC).congr (fun j _ => by unfold leftV; rw [List.take_zero]; show l j = l j - 0; omega), unhide HB1⟩
    case round =>
      obtain ⟨i, rfl, hi, hO, hb⟩ := hrel
      by_cases hlt : i < ps.length
      · obtain ⟨pb, rfl, hpl2, hpcs⟩ := ((unhide HP).below hb).2.2 (by omega)
        obtain ⟨x, hx⟩ : ∃ x, ps[i]? = some x := ⟨ps[i], by simp [hlt]⟩
        have ⟨k0, k1, k2, k3⟩ := hpcs i x hx
        have hxm := (unhide HF).fit.each x (List.mem_of_getElem? hx)
        have HX := hide hx
        have hjb := jsum_bd (unhide HF) x.j i
        have hlb := (unhide HF).lb x.j hxm.2.1
        have hEb := (unhide HF).Eb
        have X0 := Box4.new 51 wr x
        have b1 := alloc_below wr (.cells #[.int .i64 (x.c : Int), .int .i64 (x.j : Int), .int .i64 x.a, .int .i64 x.b] 51)
        have hO1 := hO.keep b1
        have hOl := hO.lt
        obtain ⟨⟨xc, xj, xa, xb⟩, hxx⟩ : ∃ y, x = y := ⟨_, rfl⟩
        subst hxx
        simp only at k0 k1 k2 k3 hxm b1 X0 hO1 hjb hlb
        obtain ⟨W1, hW1⟩ : ∃ V, wr.alloc (.cells #[.int .i64 (xc : Int), .int .i64 (xj : Int), .int .i64 xa, .int .i64 xb] 51) = V := ⟨_, rfl⟩
        rw [hW1] at X0 b1 hO1
        obtain ⟨BX, hBX⟩ : ∃ g, wr.heap.size = g := ⟨_, rfl⟩
        rw [hBX] at X0
        have q := X0.all
        simp only at q
        obtain ⟨q0, q1, q2, q3⟩ := q
        have HXB := hide (below_step hb b1)
        have HNE : Hid (BX ≠ g) := by show _ ≠ _; omega
        have HXJ : Hid (xj < n) := hxm.2.1
        obtain ⟨lv, hlv⟩ : ∃ v, leftV l ps i xj = v := ⟨_, rfl⟩
        obtain ⟨nv, hnv⟩ : ∃ v, lv - (xb - xa) = v := ⟨_, rfl⟩
        obtain ⟨dv, hdv⟩ : ∃ v, xb - xa = v := ⟨_, rfl⟩
        have hlv2 : lv = l xj - jsum xj (ps.take i) := hlv.symm
        have e1 : (0 : Int) ≤ (i : Int) := by omega
        have e2 : (i : Int) < (ps.length : Int) := by omega
        have e3 : ¬ (xc : Int) < 0 := by omega
        have e4 : ¬ (M : Int) ≤ (xc : Int) := by omega
        have e5 : ¬ (xj : Int) < 0 := by omega
        have e6 : ¬ (n : Int) ≤ (xj : Int) := by omega
        have e7 : ¬ xa < 0 := by omega
        have e8 : ¬ xb < xa := by omega
        have e9 : ¬ E < xb := by omega
        have e10 : (0 : Int) ≤ (xj : Int) := by omega
        have e11 : (xj : Int) < (n : Int) := by omega
        have e12 : IntKind.i64.wrap (xb - xa) = dv := by rw [IntKind.wrap_i64]; omega
        have e13 : IntKind.i64.wrap (lv - dv) = nv := by rw [IntKind.wrap_i64]; omega
        have e14 : IntKind.i64.wrap ((i : Int) + 1) = (i : Int) + 1 := by rw [IntKind.wrap_i64]; omega
        have HLV : Hid (∀ j, updI (leftV l ps i) xj nv j = leftV l ps (i + 1) j) := fun j => by
          rw [leftV_succ (unhide HX) j, ← hnv, ← hlv]
        have HBX := hide X0
        have HOC1 := hide hO1
        have HB1' := hide (below_step hb b1)
        have HCC : Hid (∀ W, Below W1.heap.size W1 W → (fun w' : World => (w'.cell? ⟨BX, 1, none⟩ = some (.int .i64 (xj : Int)) ∧ w'.cell? ⟨BX, 2, none⟩ = some (.int .i64 xa) ∧ w'.cell? ⟨BX, 3, none⟩ = some (.int .i64 xb)) ∧ w'.cell? ⟨g, xj, none⟩ = some (.int .i64 lv)) W) := fun W hW => by
          have h1 := (X0.keep hW).all
          have h2 := (hO1.keep hW).cell (unhide HXJ)
          rw [hlv] at h2
          exact ⟨⟨h1.2.1, h1.2.2.1, h1.2.2.2⟩, h2⟩
        clear hO hb hpcs hxm hjb hlb X0 b1 hO1 hOl hlv hnv hdv hlv2 HXB hx HOC HB1 hpl2 hEb
        have HOC := HOC1
        have HB1 := HB1'
        clear HOC1 HB1'
        go_wp2_with fail
        refine wp_region_till (fun w' : World => (w'.cell? ⟨BX, 1, none⟩ = some (.int .i64 (xj : Int)) ∧ w'.cell? ⟨BX, 2, none⟩ = some (.int .i64 xa) ∧ w'.cell? ⟨BX, 3, none⟩ = some (.int .i64 xb)) ∧ w'.cell? ⟨g, xj, none⟩ = some (.int .i64 lv)) 12 (by kernel_rfl) ?_
        have bd0 : Below W1.heap.size W1 W1.drew := (Below.refl _ _).drew
        obtain ⟨WD, hWD⟩ : ∃ W, W1.drew = W := ⟨_, rfl⟩
        rw [hWD] at bd0 ⊢
        have hC0 : (fun w' : World => (w'.cell? ⟨BX, 1, none⟩ = some (.int .i64 (xj : Int)) ∧ w'.cell? ⟨BX, 2, none⟩ = some (.int .i64 xa) ∧ w'.cell? ⟨BX, 3, none⟩ = some (.int .i64 xb)) ∧ w'.cell? ⟨g, xj, none⟩ = some (.int .i64 lv)) WD := unhide HCC _ bd0
        refine wpTill_pure (i := 0) (v := ?_) rfl (by kernel_rfl) (by kernel_rfl) (by kernel_rfl) (by kernel_rfl) (fun _ _ _ h => h) (Or.inl ⟨by rfl, ?_⟩) (fun _ => hC0) ?_
        rotate_left
        · intro w hSw; clear hSw; go_simp; (try with_reducible rfl)
        (try simp only [List.getElem_toArray, List.getElem_cons_succ, List.getElem_cons_zero])
        (try simp only [Act.put, List.setIfInBounds_toArray, List.set_cons_zero, List.set_cons_succ])
        refine wpTill_pure (i := 1) (v := ?_) rfl (by kernel_rfl) (by kernel_rfl) (by kernel_rfl) (by kernel_rfl) (fun _ _ _ h => h) (Or.inl ⟨by rfl, ?_⟩) (fun _ => hC0) ?_
        rotate_left
        · intro w hSw; clear hSw; go_simp; (try with_reducible rfl)
        (try simp only [List.getElem_toArray, List.getElem_cons_succ, List.getElem_cons_zero])
        (try simp only [Act.put, List.setIfInBounds_toArray, List.set_cons_zero, List.set_cons_succ])
        refine wpTill_take (i := 2) (v := ?_) rfl (by kernel_rfl) (by kernel_rfl) (by kernel_rfl) (by kernel_rfl) (by kernel_rfl) (by kernel_rfl) (fun _ _ _ h => h) (Or.inl ⟨by rfl, ?_⟩) hC0 ?_
        rotate_left
        · intro w hSw; (try dsimp only at hSw); obtain ⟨⟨z1, z2, z3⟩, z4⟩ := hSw; go_simp; (try with_reducible rfl)
        (try simp only [List.getElem_toArray, List.getElem_cons_succ, List.getElem_cons_zero])
        (try simp only [Act.put, List.setIfInBounds_toArray, List.set_cons_zero, List.set_cons_succ])
        refine wpTill_pure (i := 3) (v := ?_) rfl (by kernel_rfl) (by kernel_rfl) (by kernel_rfl) (by kernel_rfl) (fun _ _ _ h => h) (Or.inl ⟨by rfl, ?_⟩) (fun _ => hC0) ?_
        rotate_left
        · intro w hSw; clear hSw; go_simp; (try with_reducible rfl)
        (try simp only [List.getElem_toArray, List.getElem_cons_succ, List.getElem_cons_zero])
        (try simp only [Act.put, List.setIfInBounds_toArray, List.set_cons_zero, List.set_cons_succ])
        refine wpTill_take (i := 4) (v := ?_) rfl (by kernel_rfl) (by kernel_rfl) (by kernel_rfl) (by kernel_rfl) (by kernel_rfl) (by kernel_rfl) (fun _ _ _ h => h) (Or.inl ⟨by rfl, ?_⟩) hC0 ?_
        rotate_left
        · intro w hSw; (try dsimp only at hSw); obtain ⟨⟨z1, z2, z3⟩, z4⟩ := hSw; go_simp; (try with_reducible rfl)
        (try simp only [List.getElem_toArray, List.getElem_cons_succ, List.getElem_cons_zero])
        (try simp only [Act.put, List.setIfInBounds_toArray, List.set_cons_zero, List.set_cons_succ])
        refine wpTill_pure (i := 5) (v := ?_) rfl (by kernel_rfl) (by kernel_rfl) (by kernel_rfl) (by kernel_rfl) (fun _ _ _ h => h) (Or.inl ⟨by rfl, ?_⟩) (fun _ => hC0) ?_
        rotate_left
        · intro w hSw; clear hSw; go_simp; (try with_reducible rfl)
        (try simp only [List.getElem_toArray, List.getElem_cons_succ, List.getElem_cons_zero])
        (try simp only [Act.put, List.setIfInBounds_toArray, List.set_cons_zero, List.set_cons_succ])
        refine wpTill_take (i := 6) (v := ?_) rfl (by kernel_rfl) (by kernel_rfl) (by kernel_rfl) (by kernel_rfl) (by kernel_rfl) (by kernel_rfl) (fun _ _ _ h => h) (Or.inl ⟨by rfl, ?_⟩) hC0 ?_
        rotate_left
        · intro w hSw; (try dsimp only at hSw); obtain ⟨⟨z1, z2, z3⟩, z4⟩ := hSw; go_simp; (try with_reducible rfl)
        (try simp only [List.getElem_toArray, List.getElem_cons_succ, List.getElem_cons_zero])
        (try simp only [Act.put, List.setIfInBounds_toArray, List.set_cons_zero, List.set_cons_succ])
        refine wpTill_pure (i := 7) (v := ?_) rfl (by kernel_rfl) (by kernel_rfl) (by kernel_rfl) (by kernel_rfl) (fun _ _ _ h => h) (Or.inl ⟨by rfl, ?_⟩) (fun _ => hC0) ?_
        rotate_left
        · intro w hSw; clear hSw; go_simp; (try with_reducible rfl)
        (try simp only [List.getElem_toArray, List.getElem_cons_succ, List.getElem_cons_zero])
        (try simp only [Act.put, List.setIfInBounds_toArray, List.set_cons_zero, List.set_cons_succ])
        refine wpTill_take (i := 8) (v := ?_) rfl (by kernel_rfl) (by kernel_rfl) (by kernel_rfl) (by kernel_rfl) (by kernel_rfl) (by kernel_rfl) (fun _ _ _ h => h) (Or.inl ⟨by rfl, ?_⟩) hC0 ?_
        rotate_left
        · intro w hSw; (try dsimp only at hSw); obtain ⟨⟨z1, z2, z3⟩, z4⟩ := hSw; go_simp; (try with_reducible rfl)
        (try simp only [List.getElem_toArray, List.getElem_cons_succ, List.getElem_cons_zero])
        (try simp only [Act.put, List.setIfInBounds_toArray, List.set_cons_zero, List.set_cons_succ])
        refine wpTill_pure (i := 9) (v := ?_) rfl (by kernel_rfl) (by kernel_rfl) (by kernel_rfl) (by kernel_rfl) (fun _ _ _ h => h) (Or.inl ⟨by rfl, ?_⟩) (fun _ => hC0) ?_
        rotate_left
        · intro w hSw; clear hSw; go_simp; (try with_reducible rfl)
        (try simp only [List.getElem_toArray, List.getElem_cons_succ, List.getElem_cons_zero])
        (try simp only [Act.put, List.setIfInBounds_toArray, List.set_cons_zero, List.set_cons_succ])
        refine wpTill_pure (i := 10) (v := ?_) rfl (by kernel_rfl) (by kernel_rfl) (by kernel_rfl) (by kernel_rfl) (fun _ _ _ h => h) (Or.inl ⟨by rfl, ?_⟩) (fun _ => hC0) ?_
        rotate_left
        · intro w hSw; clear hSw; go_simp; (try with_reducible rfl)
        (try simp only [List.getElem_toArray, List.getElem_cons_succ, List.getElem_cons_zero])
        (try simp only [Act.put, List.setIfInBounds_toArray, List.set_cons_zero, List.set_cons_succ])
        refine wpTill_pure (i := 11) (v := ?_) rfl (by kernel_rfl) (by kernel_rfl) (by kernel_rfl) (by kernel_rfl) (fun _ _ _ h => h) (Or.inl ⟨by rfl, ?_⟩) (fun _ => hC0) ?_
        rotate_left
        · intro w hSw; clear hSw; go_simp; (try with_reducible rfl)
        (try simp only [List.getElem_toArray, List.getElem_cons_succ, List.getElem_cons_zero])
        (try simp only [Act.put, List.setIfInBounds_toArray, List.set_cons_zero, List.set_cons_succ])
        have oc := (unhide HOC).keep bd0
        have y0 := oc.cell (unhide HXJ)
        have l0 := oc.free xj
        have FO := hide (oc.set (unhide HXJ) nv)
        have FB := hide ((below_step (unhide HB1) bd0).setCell (p := ⟨g, xj, none⟩) (unhide HGE) (.int .i64 nv))
        have FX := hide (((unhide HBX).keep bd0).apart (j := xj) (x := .int .i64 nv) (unhide HNE))
        obtain ⟨W2, hW2⟩ : ∃ V, WD.setCell ⟨g, xj, none⟩ (.int .i64 nv) = V := ⟨_, rfl⟩
        rw [hW2] at FO FB FX
        obtain ⟨u0, y0⟩ : ∃ u : Value, WD.cell? ⟨g, xj, none⟩ = some u := ⟨_, y0⟩
        clear oc
        refine wpTill_one (k := 12) (by kernel_rfl) rfl (fun K hK => ?_)
        (try simp only [List.getElem_toArray, List.getElem_cons_succ, List.getElem_cons_zero])
        go_simp
        refine hK.out _ _ (fun h => absurd (h.symm.trans (by kernel_rfl)) Bool.false_ne_true) ?_
        clear hK K
        (try simp only [Act.put, List.setIfInBounds_toArray, List.set_cons_zero, List.set_cons_succ])
        refine wpTill_done (by kernel_rfl) ?_ _
        clear hC0 bd0 HCC hW2 hWD y0 l0

        clear q0 q1 q2 q3 k0 k1 k2 k3 e3 e4 e5 e6 e7 e8 e9 e10 e11 e12 e13 hBX hW1 HOC HB1 HBX
        obtain ⟨wq, hwq⟩ : ∃ V, wr = V := ⟨_, rfl⟩
        clear hwq
        go_wp2_with fail
        go_loopw [12] (fun vk wv => ∃ k : Nat, vk = .int .i64 (k : Int) ∧ k ≤ i ∧ OwnC wv g n (updI (leftV l ps i) xj nv) ∧ Box4 51 wv BX ⟨xc, xj, xa, xb⟩ ∧ Below w.heap.size w wv) (fun vk _ => i - (intOf vk).toNat)
        case atStart => exact ⟨0, rfl, Nat.zero_le _, unhide FO, unhide FX, unhide FB⟩
        case round =>
          obtain ⟨k, rfl, hk, hO, hX, hb⟩ := hrel
          by_cases hki : k < i
          · obtain ⟨pb', he, hpl2, hpcs⟩ := ((unhide HP).below hb).2.2 (by omega)
            obtain rfl : pb = pb' := by injection he with he; injection he
            obtain ⟨y, hy⟩ : ∃ y, ps[k]? = some y := ⟨ps[k], by simp⟩
            have ⟨k0, k1, k2, k3⟩ := hpcs k y hy
            have hov : ¬ Over y ⟨xc, xj, xa, xb⟩ := by
              have h1 := (unhide HF).fit.apart
              rw [List.pairwise_iff_getElem] at h1
              have h2 := h1 k i (by omega) hlt hki
              have h3 : ps[k]'(by omega) = y := by
                have := List.getElem?_eq_some_iff.1 hy
                exact this.2
              have h4 : ps[i] = ⟨xc, xj, xa, xb⟩ := (List.getElem?_eq_some_iff.1 (unhide HX)).2
              rw [h3, h4] at h2
              exact h2
            have Y0 := Box4.new 51 wr y
            have b1 := alloc_below wr (.cells #[.int .i64 (y.c : Int), .int .i64 (y.j : Int), .int .i64 y.a, .int .i64 y.b] 51)
            have hO1 := hO.keep b1
            have hX1 := hX.keep b1
            obtain ⟨⟨yc, yj, ya, yb⟩, hyy⟩ : ∃ z, y = z := ⟨_, rfl⟩
            subst hyy
            simp only at k0 k1 k2 k3 b1 Y0 hO1 hX1
            obtain ⟨W1, hW1⟩ : ∃ V, wr.alloc (.cells #[.int .i64 (yc : Int), .int .i64 (yj : Int), .int .i64 ya, .int .i64 yb] 51) = V := ⟨_, rfl⟩
            rw [hW1] at Y0 b1 hO1 hX1
            obtain ⟨BY, hBY⟩ : ∃ g, wr.heap.size = g := ⟨_, rfl⟩
            rw [hBY] at Y0
            have q := Y0.all
            simp only at q
            obtain ⟨q0, q1, q2, q3⟩ := q
            have r := hX1.all
            simp only at r
            obtain ⟨r0, r1, r2, r3⟩ := r
            have HO1 := hide hO1
            have HX1 := hide hX1
            have HB1 := hide (below_step hb b1)
            have e1' : (0 : Int) ≤ (k : Int) := by omega
            have e2' : (k : Int) < (ps.length : Int) := by omega
            have e3' : (k : Int) < (i : Int) := by omega
            have e4' : IntKind.i64.wrap ((k : Int) + 1) = (k : Int) + 1 := by rw [IntKind.wrap_i64]; omega
            have HOV : Hid (¬ ((yc = xc ∨ yj = xj) ∧ xa < yb ∧ ya < xb)) := hov
            clear hO hX hb hpcs Y0 b1 hO1 hX1 hy hpl2 hov he
            have FINI : Hid (∃ k' : Nat, Value.int .i64 ((k : Int) + 1) = Value.int .i64 (k' : Int) ∧ k' ≤ i ∧ OwnC W1 g n (updI (leftV l ps i) xj nv) ∧ Box4 51 W1 BX ⟨xc, xj, xa, xb⟩ ∧ Below w.heap.size w W1) := ⟨k + 1, by go_num, hki, unhide HO1, unhide HX1, unhide HB1⟩
            by_cases g1 : yc = xc
            · have f1 : ((yc : Int) == (xc : Int)) = true := by simp; omega
              by_cases g3 : xa < yb
              · have g4 : ¬ ya < xb := fun h => unhide HOV ⟨Or.inl g1, g3, h⟩
                clear g1
                go_wp2
                exact ⟨unhide FINI, by simp [intOf]; omega⟩
              · clear g1
                go_wp2
                exact ⟨unhide FINI, by simp [intOf]; omega⟩
            · have f1 : ((yc : Int) == (xc : Int)) = false := by rw [beq_eq_false_iff_ne]; omega
              by_cases g2 : yj = xj
              · have f2 : ((yj : Int) == (xj : Int)) = true := by simp; omega
                by_cases g3 : xa < yb
                · have g4 : ¬ ya < xb := fun h => unhide HOV ⟨Or.inr g2, g3, h⟩
                  clear g1 g2
                  go_wp2
                  exact ⟨unhide FINI, by simp [intOf]; omega⟩
                · clear g1 g2
                  go_wp2
                  exact ⟨unhide FINI, by simp [intOf]; omega⟩
              · have f2 : ((yj : Int) == (xj : Int)) = false := by rw [beq_eq_false_iff_ne]; omega
                clear g1 g2
                go_wp2
                exact ⟨unhide FINI, by simp [intOf]; omega⟩
          · obtain rfl : k = i := by omega
            have e1' : ¬ (k : Int) < (k : Int) := by omega
            have HO := hide hO
            have HB := hide hb
            clear hO hX hb
            go_wp2_with fail
            (try simp only [Exit.inBlock, Exit.then])
            (try go_wp2_with fail)
            exact ⟨⟨k + 1, by go_num, hlt, (unhide HO).congr (fun j _ => unhide HLV j), unhide HB⟩, by simp [intOf]; omega⟩
      · obtain rfl : i = ps.length := by omega
        have e1 : ¬ (ps.length : Int) < (ps.length : Int) := by omega
        have HO : Hid (OwnC wr g n (fun _ => 0)) := hO.congr (fun j hj => by
          unfold leftV
          rw [List.take_length, (unhide HF).fit.sum j hj]
          omega)
        have HB := hide hb
        clear hO hb HOC HB1
        go_wp2_with fail
        (try simp only [Exit.inBlock, Exit.then])
        (try go_wp2_with fail)
        go_loopw [14] (fun vi wv => ∃ i : Nat, vi = .int .i64 (i : Int) ∧ i ≤ n ∧ wv = wr) (fun vi _ => n - (intOf vi).toNat)
        case atStart => exact ⟨0, rfl, Nat.zero_le _, rfl⟩
        case round =>
          obtain ⟨i, rfl, hin, rfl⟩ := hrel
          by_cases hlt2 : i < n
          · have c0 := (unhide HO).cell hlt2
            have e2 : (0 : Int) ≤ (i : Int) := by omega
            have e3 : (i : Int) < (n : Int) := by omega
            have e4 : IntKind.i64.wrap ((i : Int) + 1) = (i : Int) + 1 := by rw [IntKind.wrap_i64]; omega
            go_wp2
            exact ⟨⟨i + 1, by go_num, hlt2, trivial⟩, by simp [intOf]; omega⟩
          · obtain rfl : i = n := by omega
            have e2 : ¬ (i : Int) < (i : Int) := by omega
            go_wp2
            (try simp only [Exit.inBlock, Exit.then])
            (try go_wp2)
            go_ret
            exact ⟨rfl, unhide HB⟩
end Go.Proofs.Ytepgdlgifempeaa
