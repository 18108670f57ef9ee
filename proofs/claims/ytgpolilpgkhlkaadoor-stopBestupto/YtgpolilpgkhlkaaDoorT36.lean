/- Chains: Takes, Follow. -/
import Derived.Test.YtgpolilpgkhlkaaDoorT14
namespace Go.Proofs.YtgpolilpgkhlkaaDoor
open Go.RowKit Go.Sort Go.Shelf

/-- The cells of a row of truths. -/
def brow (lf : Nat → Bool) (n : Nat) : List Value := (List.range n).map fun j => .bool (lf j)
theorem brow_length (lf : Nat → Bool) (n : Nat) : (brow lf n).length = n := by simp [brow]
theorem brow_get (lf : Nat → Bool) {n j : Nat} (h : j < n) : (brow lf n)[j]? = some (.bool (lf j)) := by simp [brow, h]
def updB (f : Nat → Bool) (j : Nat) (v : Bool) : Nat → Bool := fun i => if i = j then v else f i
theorem brow_set (lf : Nat → Bool) {n j : Nat} (v : Bool) : (brow lf n).set j (.bool v) = brow (updB lf j v) n := by
  apply List.ext_getElem?
  intro i
  unfold brow updB
  rw [List.getElem?_set]
  by_cases h : j = i
  · subst h
    by_cases hj : j < n <;> simp [hj]
  · by_cases hi : i < n <;> simp [h, hi, Ne.symm h]
theorem brow_congr {f g : Nat → Bool} {n : Nat} (h : ∀ j, j < n → f j = g j) : brow f n = brow g n := by
  unfold brow
  exact List.map_congr_left fun j hj => by rw [h j (List.mem_range.1 hj)]
/-- Block G is the row. -/
def OwnB (w : World) (G n : Nat) (lf : Nat → Bool) : Prop := w.heap[G]? = some (.cells (brow lf n).toArray 4)
theorem OwnB.lt {w : World} {G n : Nat} {lf : Nat → Bool} (h : OwnB w G n lf) : G < w.heap.size := (Array.getElem?_eq_some_iff.1 h).1
theorem OwnB.keep {w w' : World} {G n : Nat} {lf : Nat → Bool} (h : OwnB w G n lf) (hb : Below w.heap.size w w') : OwnB w' G n lf := by
  unfold OwnB; rw [hb.block G h.lt]; exact h
theorem OwnB.cell {w : World} {G n : Nat} {lf : Nat → Bool} (h : OwnB w G n lf) {j : Nat} (hj : j < n) : w.cell? ⟨G, j, none⟩ = some (.bool (lf j)) := by
  unfold OwnB at h
  simp only [World.cell?, h]
  have := brow_get lf hj
  simpa using this
theorem OwnB.free {w : World} {G n : Nat} {lf : Nat → Bool} (h : OwnB w G n lf) (j : Nat) : w.frozen? ⟨G, j, none⟩ = false := by
  unfold OwnB at h; simp [World.frozen?, h]
theorem OwnB.set {w : World} {G n : Nat} {lf : Nat → Bool} (h : OwnB w G n lf) (j : Nat) (v : Bool) : OwnB (w.setCell ⟨G, j, none⟩ (.bool v)) G n (updB lf j v) := by
  unfold OwnB at h ⊢
  rw [setCell_eq]
  simp only [mapBlock, Array.getElem?_modify, h, if_true, Option.map_some, onCells]
  rw [← brow_set]
  simp
theorem OwnB.congr {w : World} {G n : Nat} {f g : Nat → Bool} (h : OwnB w G n f) (e : ∀ j, j < n → f j = g j) : OwnB w G n g := by
  unfold OwnB at h ⊢; rw [← brow_congr e]; exact h
theorem Tryd.infoB : (Tryd.prog.info? 4).map (fun i => (i.zero, i.size, i.bytes)) = some (some (.bool false), 1, 1) := by kernel_rfl
theorem make_bools (k : Nat) (h1 : k ≤ 1099511627776) (w : World) :
    (Instr.makeSlice 50 (.int .i64 (k : Int)) (.int .i64 (k : Int))).run Tryd.prog w = .ok (.slice (some ⟨w.heap.size, 0, none⟩) k k) (w.alloc (.cells (brow (fun _ => false) k).toArray 4)) := by
  obtain ⟨i, hi, hz0, hz1, hz2⟩ := info_parts Tryd.infoB
  have e : madeCells (Value.bool false).cells ((k : Int).toNat * i.size) = (brow (fun _ => false) k).toArray := by
    rw [hz1]
    apply Array.ext
    · simp [madeCells, brow]
    · intro j h1 h2
      simp [madeCells, brow, Value.cells, Nat.mod_one]
  rw [run_make w 50 4 i (.bool false) Tryd.underlying50 hi hz0 .i64 .i64 k k (by omega) (Int.le_refl _) (by rw [hz2]; omega) (by omega), e]
  simp
theorem make_ownB (w : World) (k : Nat) : OwnB (w.alloc (.cells (brow (fun _ => false) k).toArray 4)) w.heap.size k (fun _ => false) := heap_alloc_new w _
theorem brow_notWord (f : Nat → Bool) (n : Nat) : ∀ u ∈ brow f n, notWord u := by
  intro u hu
  obtain ⟨i, _, rfl⟩ := List.mem_map.1 hu
  trivial
theorem brow_noWord {f : Nat → Bool} {n : Nat} {T : TypeId} {fr : Nat × Nat} : NoWord (.cells (brow f n).toArray T fr) := by
  intro cs T' fr' e j x
  injection e with e
  subst e
  intro hx
  obtain ⟨hlt, hx⟩ := Array.getElem?_eq_some_iff.1 hx
  exact brow_notWord f n (.int .u64 x) (by rw [← hx]; simp)
theorem RatIs.bools {w : World} {g n j : Nat} {b : Bool} {f : Nat → Bool} {v : Value} {q : Rat} (h : RatIs w v q) (hg : OwnB w g n f) : RatIs (w.setCell ⟨g, j, none⟩ (.bool b)) v q :=
  h.other hg brow_noWord (by simp [World.setCell]) (fun k hk => Below.heap_setCell _ _ _ _ hk)
/-- A row stays where a row of truths is written. -/
theorem LawIs.bools {w : World} {g n j : Nat} {x : Bool} {f : Nat → Bool} {v : Value} {qs : List Rat} (h : LawIs w v qs) (hg : OwnB w g n f) : LawIs (w.setCell ⟨g, j, none⟩ (.bool x)) v qs := by
  obtain ⟨a, c', e, h1, h2, h3⟩ := h
  refine ⟨a, c', e, h1, h2, fun hp => ?_⟩
  obtain ⟨b, o, ea, hlt, hc⟩ := h3 hp
  have nb : b ≠ g := fun eb => by
    obtain ⟨s, a1, a2, n1, c1, n2, c2, _, k1, _⟩ := hc 0 hp
    rw [eb] at k1
    unfold OwnB at hg
    simp only [World.cell?, hg] at k1
    have hm : Value.slice a1 n1 c1 ∈ brow f n := by
      have k2 : (brow f n)[o + 0 * 3 + 1]? = some (.slice a1 n1 c1) := by simpa using k1
      exact List.mem_of_getElem? k2
    obtain ⟨j, _, ej⟩ := List.mem_map.1 hm
    cases ej
  refine ⟨b, o, ea, by rw [show (w.setCell ⟨g, j, none⟩ (.bool x)).heap.size = w.heap.size by simp [World.setCell]]; exact hlt, fun i hi => ?_⟩
  obtain ⟨s, a1, a2, n1, c1, n2, c2, k0, k1, k2, r⟩ := hc i hi
  refine ⟨s, a1, a2, n1, c1, n2, c2, ?_, ?_, ?_, r.bools hg⟩
  · rw [cell_other nb]; exact k0
  · rw [cell_other nb]; exact k1
  · rw [cell_other nb]; exact k2
theorem OwnB.brow {w : World} {G n : Nat} {f : Nat → Bool} (h : OwnB w G n f) (hn : n ≤ 9223372036854775807) : BRow w (.slice (some ⟨G, 0, none⟩) n n) n f := ⟨_, _, rfl, Nat.le_refl _, hn, fun _ => ⟨G, 0, rfl, h.lt, fun j hj => by rw [Nat.zero_add]; exact h.cell hj⟩⟩
theorem fol_RS {P : List (List Rat)} {gs : List Rat} {c : Rat} {s : Nat → Bool} (sm : SmC P gs c) (gm : GoodC P gs) : ∀ (t i : Nat), i < P.length → RS (Stp.fol (chn P gs c) s t i) (eb t)
  | 0, i, hi => sm.rg i (by rw [gm.gl]; exact hi)
  | t + 1, i, hi => by
    show RS (if s i = true then _ else _) _
    split
    · exact (sm.rg i (by rw [gm.gl]; exact hi)).mono (by show 1 ≤ 8 * (eb t + 2) + 3; omega)
    · exact on_RS sm gm hi (fun j hj => fol_RS sm gm t j hj)
theorem fol_small {P : List (List Rat)} {gs : List Rat} {c : Rat} {s : Nat → Bool} (sm : SmC P gs c) (gm : GoodC P gs) {t i : Nat} (ht : t ≤ 5) (hi : i < P.length) : RS (Stp.fol (chn P gs c) s t i) 200000 := (fol_RS sm gm t i hi).mono (eb_le ht)

/-- What Takes says. -/
def TakPost (w : World) (n : Nat) (M : Stp.Ch) (tq : Nat) (e : Ending) (w' : World) : Prop := ∃ (v : Value) (f : Nat → Bool), e = .returned (.tuple #[v, .nilIface]) ∧ BRow w' v n f ∧ (∀ i, i < n → (f i = true ↔ ¬ M.g i < Stp.on M (Stp.env M tq) i)) ∧ Below w.heap.size w w'
set_option maxHeartbeats 16000000 in
set_option maxRecDepth 100000 in
set_option linter.unusedSimpArgs false in
theorem takes_any (v : Value) (P : List (List Rat)) (gs : List Rat) (c : Rat) (times : Nat) (w : World) (h : ChainIs w v P gs c) (sm : SmC P gs c) (hc : ccode P gs = 0) (ht1 : 1 ≤ times) (ht : times ≤ 5) : Calls Tryd.prog 18 #[v, .int .i64 (times : Int)] w (TakPost w P.length (chn P gs c) (times - 1)) := by
  have KKe : KK = 1099511627776 := rfl
  have gm := goodC_of hc
  have HSM := hide sm
  have HGM := hide gm
  obtain ⟨l, m, t, rfl, hS, hT, hR⟩ := h
  have hln := rows_len hS
  have hmn := law_len hT
  have X0 := CBox.new hS hT hR
  have b0 := alloc_below w (.cells #[.slice l.a l.n l.c, .slice m.a m.n m.c, .bool t.s, .slice t.a1 t.n1 t.c1, .slice t.a2 t.n2 t.c2] 37)
  obtain ⟨W0, hW0⟩ : ∃ W, w.alloc (.cells #[.slice l.a l.n l.c, .slice m.a m.n m.c, .bool t.s, .slice t.a1 t.n1 t.c1, .slice t.a2 t.n2 t.c2] 37) = W := ⟨_, rfl⟩
  obtain ⟨bx, hbx⟩ : ∃ b, w.heap.size = b := ⟨_, rfl⟩
  rw [hW0] at X0 b0
  rw [hbx] at X0
  have ⟨c0, c1, c2, c3, c4⟩ := X0.cells _ (Below.refl _ _)
  have HX0 := hide X0
  have HB0 := hide b0
  obtain ⟨n, hn⟩ : ∃ n, P.length = n := ⟨_, rfl⟩
  have HN := hide hn
  rw [hn] at hln
  rw [gm.gl, hn] at hmn
  rw [hln] at c0
  rw [hmn] at c1
  unfold cval
  rw [hln, hmn] at hW0 ⊢
  have HLN := hide hln
  have HMN := hide hmn
  clear hS hT hR X0 b0 hn hln hmn
  have hn8 := gm.n8
  have hn1 := gm.n1
  have hgl := gm.gl
  rw [unhide HN] at hn8 hn1 hgl ⊢
  have HGL := hide hgl
  have HCK := hide (ctimes_any (cval l m t) P gs c times (by omega) W0 (unhide HX0).chain (unhide HSM))
  unfold cval at HCK
  rw [unhide HLN, unhide HMN, hc] at HCK
  obtain ⟨M, hM⟩ : ∃ M, chn P gs c = M := ⟨_, rfl⟩
  rw [hM]
  have HM := hide hM
  have HMn : Hid (M.n = n) := by show M.n = n; rw [← hM]; exact unhide HN
  obtain ⟨tq, htq⟩ : ∃ q, q + 1 = times := ⟨times - 1, by omega⟩
  rw [show times - 1 = tq by omega]
  have et : IntKind.i64.wrap ((times : Int) - 1) = (tq : Int) := by rw [IntKind.wrap_i64]; omega
  have et0 : ((times : Int) == 0) = false := by rw [beq_eq_false_iff_ne]; omega
  have ft0 : (0 : Int) ≤ (tq : Int) := by omega
  have ft1 : (tq : Int) < ((tq + 1 : Nat) : Int) := by omega
  clear sm gm hM hgl hc
  go_enter Tryd.func18, Tryd.ntmps18
  go_wp2_with fail
  clear hW0 hbx c0 c1 c2 c3 c4
  refine (unhide HCK).mono ?_
  rintro e w1 ⟨rfl, hb1⟩
  have e5 : errV 0 = .nilIface := rfl
  rw [e5]
  have HX1 := hide ((unhide HX0).keep hb1)
  have ⟨d0, d1, d2, d3, d4⟩ := (unhide HX1).cells _ (Below.refl _ _)
  rw [unhide HLN] at d0
  rw [unhide HMN] at d1
  have qmk := make_bools n (by omega) w1
  have bM := alloc_below w1 (.cells (brow (fun _ => false) n).toArray 4)
  have OB := make_ownB w1 n
  obtain ⟨W1, hW1⟩ : ∃ W, w1.alloc (.cells (brow (fun _ => false) n).toArray 4) = W := ⟨_, rfl⟩
  obtain ⟨GB, hGB⟩ : ∃ G, w1.heap.size = G := ⟨_, rfl⟩
  rw [hW1] at qmk bM OB
  rw [hGB] at qmk OB
  have HOB := hide OB
  have HGB : Hid (w1.heap.size ≤ GB) := by show _ ≤ GB; omega
  have HBM := hide bM
  have HB01 := hide hb1
  have X2 := (unhide HX1).keep bM
  have ⟨f0, f1, f2, f3, f4⟩ := X2.cells _ (Below.refl _ _)
  rw [unhide HLN] at f0
  rw [unhide HMN] at f1
  have HEN := hide (envelope_any (cval l m t) P gs c tq W1 X2.chain (unhide HSM) (unhide HGM) (by omega))
  unfold cval at HEN
  rw [unhide HLN, unhide HMN, unhide HM, unhide HN] at HEN
  clear hb1 OB bM X2 e5
  go_wp2_with fail
  clear d0 d1 d2 d3 d4 f0 f1 f2 f3 f4 qmk hW1 hGB
  refine (unhide HEN).mono ?_
  rintro e w2 ⟨v2, rfl, hv2, hb2⟩
  obtain ⟨a2, c2, rfl, _⟩ := id hv2
  rw [emat_length] at hv2 ⊢
  obtain ⟨b2, o2, l2, ea2, hb2l, k2, hL2⟩ := hv2.at (l := (a2, tq + 1, c2)) (i := tq) (by rw [emat_length]; omega)
  rw [emat_get (by omega)] at hL2
  have hl2n := law_len hL2
  rw [row_length] at hl2n
  simp only [Sl.val] at hL2
  rw [hl2n] at k2 hL2
  obtain ⟨lsa, elsa⟩ : ∃ a, l2.a = a := ⟨_, rfl⟩
  obtain ⟨lsc, elsc⟩ : ∃ a, l2.c = a := ⟨_, rfl⟩
  rw [elsa, elsc] at k2 hL2
  have ea2' : a2 = some ⟨b2, o2, none⟩ := ea2
  rw [ea2']
  have HL2 := hide hL2
  have HO2 := hide ((unhide HOB).keep hb2)
  have HB2 := hide (below_step (unhide HBM) hb2)
  have ⟨d0, d1, d2, d3, d4⟩ := (unhide HX1).cells _ (unhide HB2)
  rw [unhide HLN] at d0
  rw [unhide HMN] at d1
  clear hv2 hL2 hb2 ea2 elsa elsc hl2n HEN HOB HBM
  go_wp2_with fail
  clear d0 d1 d2 d3 d4 k2 ea2' hb2l et
  go_loopw [45] (fun vj wr => ∃ (j : Nat) (f : Nat → Bool), vj = .int .i64 (j : Int) ∧ j ≤ n ∧ OwnB wr GB n f ∧ (∀ i, i < j → (f i = true ↔ ¬ M.g i < Stp.on M (Stp.env M tq) i)) ∧ LawIs wr (.slice lsa n lsc) (row (Stp.env M tq) n) ∧ Below w1.heap.size w1 wr) (fun vj _ => n - (intOf vj).toNat)
  case atStart => exact ⟨0, _, rfl, Nat.zero_le _, unhide HO2, fun i hi => absurd hi (Nat.not_lt_zero _), unhide HL2, unhide HB2⟩
  case round =>
    obtain ⟨j, f, rfl, hj, hO, hF, hL, hB⟩ := hrel
    clear HO2 HL2 HB2
    by_cases hlt : j < n
    rotate_left
    · obtain rfl : j = n := by omega
      have f1 : ¬ (j : Int) < (j : Int) := by omega
      have HR := hide (hO.brow (by omega))
      have HF := hide hF
      have HBf := hide (below_step (unhide HB0) (below_step (unhide HB01) hB))
      clear hO hF hL hB
      go_wp2
      go_ret2
      exact ⟨_, f, rfl, unhide HR, unhide HF, unhide HBf⟩
    · have f1 : (j : Int) < (n : Int) := by omega
      have f0 : (0 : Int) ≤ (j : Int) := by omega
      have hltP : j < P.length := by rw [unhide HN]; exact hlt
      obtain ⟨am, cm, em, _, _, hm3⟩ := (unhide HX1).2.2.1.below hB
      obtain ⟨bm, om, eam, hmlt, hcm⟩ := hm3 (by rw [unhide HGL]; omega)
      have ema : m.a = some ⟨bm, om, none⟩ := by injection em with e1; rw [e1, eam]
      obtain ⟨s', p1, p2, m1, d1, m2, d2, k0, k1, k2, r⟩ := hcm j (by rw [unhide HGL]; exact hlt)
      obtain ⟨tx, rfl, rfl, rfl, rfl, rfl, rfl, rfl⟩ : ∃ t : Tri, s' = t.s ∧ p1 = t.a1 ∧ p2 = t.a2 ∧ m1 = t.n1 ∧ d1 = t.c1 ∧ m2 = t.n2 ∧ d2 = t.c2 := ⟨⟨s', p1, p2, m1, d1, m2, d2⟩, rfl, rfl, rfl, rfl, rfl, rfl, rfl⟩
      have rx : RatIs wr tx.val gs[j]! := r
      have bA := alloc_below wr (.cells #[.bool tx.s, .slice tx.a1 tx.n1 tx.c1, .slice tx.a2 tx.n2 tx.c2] 35)
      have X5 := BoxIs.new rx
      have O5 := hO.keep bA
      have L5 := hL.below bA
      have B5 := below_step hB bA
      obtain ⟨W5, hW5⟩ : ∃ W, wr.alloc (.cells #[.bool tx.s, .slice tx.a1 tx.n1 tx.c1, .slice tx.a2 tx.n2 tx.c2] 35) = W := ⟨_, rfl⟩
      obtain ⟨gx, hgx⟩ : ∃ g, wr.heap.size = g := ⟨_, rfl⟩
      rw [hW5] at X5 O5 L5 B5
      rw [hgx] at X5
      have MX := (unhide HX1).keep B5
      have HCC : Hid (∀ W, Below W5.heap.size W5 W → (fun w' : World => (w'.cell? ⟨bx, 0, none⟩ = some (.slice l.a n l.c) ∧ w'.cell? ⟨bx, 1, none⟩ = some (.slice m.a n m.c) ∧ w'.cell? ⟨bx, 2, none⟩ = some (.bool t.s) ∧ w'.cell? ⟨bx, 3, none⟩ = some (.slice t.a1 t.n1 t.c1) ∧ w'.cell? ⟨bx, 4, none⟩ = some (.slice t.a2 t.n2 t.c2)) ∧ (w'.cell? ⟨gx, 0, none⟩ = some (.bool tx.s) ∧ w'.cell? ⟨gx, 1, none⟩ = some (.slice tx.a1 tx.n1 tx.c1) ∧ w'.cell? ⟨gx, 2, none⟩ = some (.slice tx.a2 tx.n2 tx.c2))) W) := fun W hW => by
        have mc := MX.cells W hW
        rw [unhide HLN, unhide HMN] at mc
        exact ⟨mc, X5.cells W hW⟩
      have hon : Stp.on (chn P gs c) (bf (row (Stp.env M tq) n)) j = Stp.on M (Stp.env M tq) j := by
        rw [unhide HM]
        exact on_congr (fun k hk => row_get (by rw [unhide HMn] at hk; exact hk)) j
      have HGO : Hid (∀ W, Below W5.heap.size W5 W → Calls Tryd.prog 42 #[.agg #[.slice l.a n l.c, .slice m.a n m.c, .bool t.s, .slice t.a1 t.n1 t.c1, .slice t.a2 t.n2 t.c2], .int .i64 (j : Int), .slice lsa n lsc] W fun e w' => ∃ v, e = .returned v ∧ RatIs w' v (Stp.on M (Stp.env M tq) j) ∧ Below W.heap.size W w') := fun W hW => by
        have := going_any (cval l m t) (.slice lsa n lsc) P gs c (row (Stp.env M tq) n) j 200000 W (MX.keep hW).chain (unhide HSM) (unhide HGM) hltP (L5.below hW) (by rw [row_length]; exact (unhide HN).symm) (fun u hu => by
          rw [row_get (by rw [← unhide HN]; exact hu), ← unhide HM]
          exact env_small (unhide HSM) (unhide HGM) (by omega) hu) (by rw [KKe]; omega)
        unfold cval at this
        rw [unhide HLN, unhide HMN, hon] at this
        exact this
      have HTX := hide X5.2
      have HRX := hide (((unhide HSM).rg j (by rw [unhide HGL]; exact hlt)).mono (show 1 ≤ 2000000 by omega))
      have HRO : Hid (RS (Stp.on M (Stp.env M tq) j) 2000000) := by
        show RS _ _
        rw [← unhide HM]
        exact (on_RS (unhide HSM) (unhide HGM) hltP (fun u hu => env_small (unhide HSM) (unhide HGM) (t := tq) (by omega) hu)).mono (by omega)
      have HJJ : Hid (2000000 ≤ KK) := by show _ ≤ _; rw [KKe]; omega
      obtain ⟨yv, hyv⟩ : ∃ y, cmpv gs[j]! (Stp.on M (Stp.env M tq) j) = y := ⟨_, rfl⟩
      obtain ⟨bq, hbq⟩ : ∃ b, decide (0 ≤ yv) = b := ⟨_, rfl⟩
      have HBQ : Hid (bq = true ↔ ¬ M.g j < Stp.on M (Stp.env M tq) j) := by
        show _ ↔ _
        have eg : M.g j = gs[j]! := by rw [← unhide HM]; rfl
        rw [eg, ← hbq, decide_eq_true_eq, ← hyv]
        by_cases hc : gs[j]! < Stp.on M (Stp.env M tq) j
        · rw [cmpv_lt hc]; exact ⟨fun h => absurd h (by decide), fun h => absurd hc h⟩
        · exact ⟨fun _ => hc, fun _ => (cmpv_ge (Rat.not_lt.1 hc)).1⟩
      have HO5 := hide O5
      have HL5 := hide L5
      have HB5 := hide B5
      have HF := hide hF
      rw [ema] at HGO ⊢
      clear hO hF hL hB bA X5 O5 L5 B5 MX r rx hcm hm3 em hon hltP
      go_wp2_with fail
      clear hW5 hgx k0 k1 k2
      refine wp_region_till (fun w' : World => (w'.cell? ⟨bx, 0, none⟩ = some (.slice l.a n l.c) ∧ w'.cell? ⟨bx, 1, none⟩ = some (.slice m.a n m.c) ∧ w'.cell? ⟨bx, 2, none⟩ = some (.bool t.s) ∧ w'.cell? ⟨bx, 3, none⟩ = some (.slice t.a1 t.n1 t.c1) ∧ w'.cell? ⟨bx, 4, none⟩ = some (.slice t.a2 t.n2 t.c2)) ∧ (w'.cell? ⟨gx, 0, none⟩ = some (.bool tx.s) ∧ w'.cell? ⟨gx, 1, none⟩ = some (.slice tx.a1 tx.n1 tx.c1) ∧ w'.cell? ⟨gx, 2, none⟩ = some (.slice tx.a2 tx.n2 tx.c2))) 10 (by kernel_rfl) ?_
      have bd0 : Below W5.heap.size W5 W5.drew := (Below.refl _ _).drew
      have hC0 : (fun w' : World => (w'.cell? ⟨bx, 0, none⟩ = some (.slice l.a n l.c) ∧ w'.cell? ⟨bx, 1, none⟩ = some (.slice m.a n m.c) ∧ w'.cell? ⟨bx, 2, none⟩ = some (.bool t.s) ∧ w'.cell? ⟨bx, 3, none⟩ = some (.slice t.a1 t.n1 t.c1) ∧ w'.cell? ⟨bx, 4, none⟩ = some (.slice t.a2 t.n2 t.c2)) ∧ (w'.cell? ⟨gx, 0, none⟩ = some (.bool tx.s) ∧ w'.cell? ⟨gx, 1, none⟩ = some (.slice tx.a1 tx.n1 tx.c1) ∧ w'.cell? ⟨gx, 2, none⟩ = some (.slice tx.a2 tx.n2 tx.c2))) W5.drew := unhide HCC _ bd0
      refine wpTill_pure (i := 0) (v := ?_) rfl (by kernel_rfl) (by kernel_rfl) (by kernel_rfl) (by kernel_rfl) (fun _ _ _ h => h) (Or.inl ⟨by rfl, ?_⟩) (fun _ => hC0) ?_
      rotate_left
      · intro w hSw; clear hSw; go_simp; (try with_reducible rfl)
      (try simp only [List.getElem_toArray, List.getElem_cons_succ, List.getElem_cons_zero])
      (try simp only [Act.put, List.setIfInBounds_toArray, List.set_cons_zero, List.set_cons_succ])
      refine wpTill_pure (i := 1) (v := ?_) rfl (by kernel_rfl) (by kernel_rfl) (by kernel_rfl) (by kernel_rfl) (fun _ _ _ h => h) (Or.inl ⟨by rfl, ?_⟩) (fun _ => hC0) ?_
      rotate_left
      · intro w hSw; clear hSw; go_simp; (try with_reducible rfl)
      (try simp only [List.getElem_toArray, List.getElem_cons_succ, List.getElem_cons_zero])
      (try simp only [Act.put, List.setIfInBounds_toArray, List.set_cons_zero, List.set_cons_succ])
      refine wpTill_take (i := 2) (v := ?_) rfl (by kernel_rfl) (by kernel_rfl) (by kernel_rfl) (by kernel_rfl) (by kernel_rfl) (by kernel_rfl) (fun _ _ _ h => h) (Or.inl ⟨by rfl, ?_⟩) hC0 ?_
      rotate_left
      · intro w hSw; (try dsimp only at hSw); obtain ⟨⟨u0, u1, u2, u3, u4⟩, u5, u6, u7⟩ := hSw; go_simp; (try with_reducible rfl)
      (try simp only [List.getElem_toArray, List.getElem_cons_succ, List.getElem_cons_zero])
      (try simp only [Act.put, List.setIfInBounds_toArray, List.set_cons_zero, List.set_cons_succ])
      refine wpTill_take (i := 3) (v := ?_) rfl (by kernel_rfl) (by kernel_rfl) (by kernel_rfl) (by kernel_rfl) (by kernel_rfl) (by kernel_rfl) (fun _ _ _ h => h) (Or.inl ⟨by rfl, ?_⟩) hC0 ?_
      rotate_left
      · intro w hSw; (try dsimp only at hSw); obtain ⟨⟨u0, u1, u2, u3, u4⟩, u5, u6, u7⟩ := hSw; go_simp; (try with_reducible rfl)
      (try simp only [List.getElem_toArray, List.getElem_cons_succ, List.getElem_cons_zero])
      (try simp only [Act.put, List.setIfInBounds_toArray, List.set_cons_zero, List.set_cons_succ])
      refine wpTill_pure (i := 4) (v := ?_) rfl (by kernel_rfl) (by kernel_rfl) (by kernel_rfl) (by kernel_rfl) (fun _ _ _ h => h) (Or.inl ⟨by rfl, ?_⟩) (fun _ => hC0) ?_
      rotate_left
      · intro w hSw; clear hSw; go_simp; (try with_reducible rfl)
      (try simp only [List.getElem_toArray, List.getElem_cons_succ, List.getElem_cons_zero])
      (try simp only [Act.put, List.setIfInBounds_toArray, List.set_cons_zero, List.set_cons_succ])
      refine wpTill_pure (i := 5) (v := ?_) rfl (by kernel_rfl) (by kernel_rfl) (by kernel_rfl) (by kernel_rfl) (fun _ _ _ h => h) (Or.inl ⟨by rfl, ?_⟩) (fun _ => hC0) ?_
      rotate_left
      · intro w hSw; clear hSw; go_simp; (try with_reducible rfl)
      (try simp only [List.getElem_toArray, List.getElem_cons_succ, List.getElem_cons_zero])
      (try simp only [Act.put, List.setIfInBounds_toArray, List.set_cons_zero, List.set_cons_succ])
      refine wpTill_one (k := 6) (by kernel_rfl) rfl (fun K hK => ?_)
      (try simp only [List.getElem_toArray, List.getElem_cons_succ, List.getElem_cons_zero])
      go_simp
      refine (unhide HGO _ bd0).mono ?_
      rintro e xw_1 ⟨xv_1, rfl, hv_1, hb_1⟩
      have cc_1 := below_step bd0 hb_1
      have hC_1 : (fun w' : World => (w'.cell? ⟨bx, 0, none⟩ = some (.slice l.a n l.c) ∧ w'.cell? ⟨bx, 1, none⟩ = some (.slice m.a n m.c) ∧ w'.cell? ⟨bx, 2, none⟩ = some (.bool t.s) ∧ w'.cell? ⟨bx, 3, none⟩ = some (.slice t.a1 t.n1 t.c1) ∧ w'.cell? ⟨bx, 4, none⟩ = some (.slice t.a2 t.n2 t.c2)) ∧ (w'.cell? ⟨gx, 0, none⟩ = some (.bool tx.s) ∧ w'.cell? ⟨gx, 1, none⟩ = some (.slice tx.a1 tx.n1 tx.c1) ∧ w'.cell? ⟨gx, 2, none⟩ = some (.slice tx.a2 tx.n2 tx.c2))) xw_1 := unhide HCC _ cc_1
      refine hK.out _ _ (fun _ => hC_1) ?_
      clear hK K
      (try simp only [Act.put, List.setIfInBounds_toArray, List.set_cons_zero, List.set_cons_succ])
      refine wpTill_one (k := 7) (by kernel_rfl) rfl (fun K hK => ?_)
      (try simp only [List.getElem_toArray, List.getElem_cons_succ, List.getElem_cons_zero])
      go_simp
      refine (cmpR_all tx.val _ _ _ _ ((unhide HTX).below cc_1) hv_1 _ (unhide HRX) (unhide HRO) (unhide HJJ)).mono ?_
      rintro e xw_2 ⟨rfl, hb_2⟩
      have cc_2 := below_step cc_1 hb_2
      have hC_2 : (fun w' : World => (w'.cell? ⟨bx, 0, none⟩ = some (.slice l.a n l.c) ∧ w'.cell? ⟨bx, 1, none⟩ = some (.slice m.a n m.c) ∧ w'.cell? ⟨bx, 2, none⟩ = some (.bool t.s) ∧ w'.cell? ⟨bx, 3, none⟩ = some (.slice t.a1 t.n1 t.c1) ∧ w'.cell? ⟨bx, 4, none⟩ = some (.slice t.a2 t.n2 t.c2)) ∧ (w'.cell? ⟨gx, 0, none⟩ = some (.bool tx.s) ∧ w'.cell? ⟨gx, 1, none⟩ = some (.slice tx.a1 tx.n1 tx.c1) ∧ w'.cell? ⟨gx, 2, none⟩ = some (.slice tx.a2 tx.n2 tx.c2))) xw_2 := unhide HCC _ cc_2
      refine hK.out _ _ (fun _ => hC_2) ?_
      clear hK K
      (try simp only [Act.put, List.setIfInBounds_toArray, List.set_cons_zero, List.set_cons_succ])
      rw [hyv]
      refine wpTill_pure (i := 8) (v := ?_) rfl (by kernel_rfl) (by kernel_rfl) (by kernel_rfl) (by kernel_rfl) (fun _ _ _ h => h) (Or.inl ⟨by rfl, ?_⟩) (fun _ => hC_2) ?_
      rotate_left
      · intro w hSw; clear hSw; go_simp; (try with_reducible rfl)
      (try simp only [List.getElem_toArray, List.getElem_cons_succ, List.getElem_cons_zero])
      (try simp only [Act.put, List.setIfInBounds_toArray, List.set_cons_zero, List.set_cons_succ])
      refine wpTill_pure (i := 9) (v := ?_) rfl (by kernel_rfl) (by kernel_rfl) (by kernel_rfl) (by kernel_rfl) (fun _ _ _ h => h) (Or.inl ⟨by rfl, ?_⟩) (fun _ => hC_2) ?_
      rotate_left
      · intro w hSw; clear hSw; go_simp; (try with_reducible rfl)
      (try simp only [List.getElem_toArray, List.getElem_cons_succ, List.getElem_cons_zero])
      (try simp only [Act.put, List.setIfInBounds_toArray, List.set_cons_zero, List.set_cons_succ])
      have O8 := (unhide HO5).keep cc_2
      have L8 := (unhide HL5).below cc_2
      have yf := O8.free j
      have yc := O8.cell hlt
      have O9 := O8.set j bq
      have L9 := L8.bools (j := j) (x := bq) O8
      have B9 := ((below_step (unhide HB5) cc_2).setCell (p := ⟨GB, j, none⟩) (unhide HGB) (.bool bq))
      obtain ⟨W9, hW9⟩ : ∃ W, xw_2.setCell ⟨GB, j, none⟩ (.bool bq) = W := ⟨_, rfl⟩
      rw [hW9] at O9 L9 B9
      have HO9 := hide O9
      have HL9 := hide L9
      have HB9 := hide B9
      clear O8 L8 O9 L9 B9 hv_1
      refine wpTill_one (k := 10) (by kernel_rfl) rfl (fun K hK => ?_)
      (try simp only [List.getElem_toArray, List.getElem_cons_succ, List.getElem_cons_zero])
      go_simp
      refine hK.out _ _ (fun h => absurd (h.symm.trans (by kernel_rfl)) Bool.false_ne_true) ?_
      clear hK K
      (try simp only [Act.put, List.setIfInBounds_toArray, List.set_cons_zero, List.set_cons_succ])
      refine wpTill_done (by kernel_rfl) ?_ _
      clear HCC HGO HTX
      clear yf yc hW9 hC0 hC_1 hC_2 cc_1 cc_2 bd0 hb_1 hb_2
      go_wp2_with fail
      exact ⟨⟨j + 1, _, by go_num, hlt, unhide HO9, fun i hi => by
        unfold updB
        by_cases e : i = j
        · rw [if_pos e, e]; exact unhide HBQ
        · rw [if_neg e]; exact unhide HF i (by omega), unhide HL9, unhide HB9⟩, by simp [intOf]; omega⟩

/-- What Follow says. -/
def FolPost (w : World) (P : List (List Rat)) (gs : List Rat) (c : Rat) (f : Nat → Bool) (times : Nat) (e : Ending) (w' : World) : Prop :=
  (ccode P gs = 0 ∧ ∃ v, e = .returned (.tuple #[v, .nilIface]) ∧ LawIs w' v (row (Stp.fol (chn P gs c) f times) P.length) ∧ Below w.heap.size w w') ∨
  (ccode P gs ≠ 0 ∧ ∃ k, e = .returned (.tuple #[.slice none 0 0, .iface 81 (.int .i64 k)]) ∧ Below w.heap.size w w')
set_option maxHeartbeats 16000000 in
set_option maxRecDepth 100000 in
set_option linter.unusedSimpArgs false in
theorem follow_any (v vt : Value) (P : List (List Rat)) (gs : List Rat) (c : Rat) (times : Nat) (f : Nat → Bool) (w : World) (h : ChainIs w v P gs c) (sm : SmC P gs c) (hb : BRow w vt gs.length f) (ht : times ≤ 5) : Calls Tryd.prog 17 #[v, .int .i64 (times : Int), vt] w (FolPost w P gs c f times) := by
  have KKe : KK = 1099511627776 := rfl
  have HSM := hide sm
  have HBR := hide hb
  obtain ⟨at_, ct_, rfl, ht1, ht2, ht3⟩ := hb
  obtain ⟨l, m, t, rfl, hS, hT, hR⟩ := h
  have hln := rows_len hS
  have hmn := law_len hT
  have X0 := CBox.new hS hT hR
  have b0 := alloc_below w (.cells #[.slice l.a l.n l.c, .slice m.a m.n m.c, .bool t.s, .slice t.a1 t.n1 t.c1, .slice t.a2 t.n2 t.c2] 37)
  obtain ⟨W0, hW0⟩ : ∃ W, w.alloc (.cells #[.slice l.a l.n l.c, .slice m.a m.n m.c, .bool t.s, .slice t.a1 t.n1 t.c1, .slice t.a2 t.n2 t.c2] 37) = W := ⟨_, rfl⟩
  obtain ⟨bx, hbx⟩ : ∃ b, w.heap.size = b := ⟨_, rfl⟩
  rw [hW0] at X0 b0
  rw [hbx] at X0
  have ⟨c0, c1, c2, c3, c4⟩ := X0.cells _ (Below.refl _ _)
  have HX0 := hide X0
  have HB0 := hide b0
  obtain ⟨n, hn⟩ : ∃ n, P.length = n := ⟨_, rfl⟩
  have HN := hide hn
  rw [hn] at hln
  obtain ⟨k, hk⟩ : ∃ k, gs.length = k := ⟨_, rfl⟩
  have HK := hide hk
  rw [hk] at hmn
  clear hk
  rw [hln] at c0
  rw [hmn] at c1
  unfold cval
  rw [hln, hmn] at hW0 ⊢
  have HLN := hide hln
  have HMN := hide hmn
  clear hS hT hR X0 b0 hn hln hmn
  have hng := sm.ng
  rw [unhide HK] at HBR ht1 hng ⊢
  have HCK := hide (ctimes_any (cval l m t) P gs c times (by omega) W0 (unhide HX0).chain (unhide HSM))
  unfold cval at HCK
  rw [unhide HLN, unhide HMN] at HCK
  clear sm ht3
  go_enter Tryd.func17, Tryd.ntmps17
  go_wp2_with fail
  clear hW0 hbx c0 c1 c2 c3 c4
  refine (unhide HCK).mono ?_
  rintro e w1 ⟨rfl, hb1⟩
  have HB1 := hide (below_step (unhide HB0) hb1)
  have HX1 := hide ((unhide HX0).keep hb1)
  obtain ⟨z, hz⟩ : ∃ z, ccode P gs = z := ⟨_, rfl⟩
  rw [hz]
  have HZ := hide hz
  clear hb1 hz HCK
  by_cases hk0 : z = 0
  rotate_left
  · have e5 : errV z = .iface 81 (.int .i64 z) := by unfold errV; rw [if_neg hk0]
    have HK0 := hide hk0
    rw [e5]
    clear hk0 e5
    go_wp2
    go_ret2
    exact Or.inr ⟨by rw [unhide HZ]; exact unhide HK0, z, rfl, unhide HB1⟩
  subst hk0
  have e5 : errV 0 = .nilIface := rfl
  rw [e5]
  have HGM := hide (goodC_of (unhide HZ))
  obtain rfl : n = k := by have h1 := (unhide HGM).gl; have h2 := unhide HN; have h3 := unhide HK; omega
  have hn8 := (unhide HGM).n8
  have hn1 := (unhide HGM).n1
  rw [unhide HN] at hn8 hn1
  obtain ⟨M, hM⟩ : ∃ M, chn P gs c = M := ⟨_, rfl⟩
  have HM := hide hM
  have HMn : Hid (M.n = n) := by show M.n = n; rw [← hM]; exact unhide HN
  have ⟨d0, d1, d2, d3, d4⟩ := (unhide HX1).cells _ (Below.refl _ _)
  rw [unhide HLN] at d0
  rw [unhide HMN] at d1
  have ekk : ((n : Int) == (n : Int)) = true := by rw [beq_iff_eq]
  have HCL := hide (rclone_any m.val gs w1 (unhide HX1).2.2.1 (by rw [unhide HK]; omega) (by rw [unhide HK]; omega))
  unfold ClonePost at HCL
  rw [unhide HK] at HCL
  simp only [Sl.val] at HCL
  rw [unhide HMN] at HCL
  clear hM e5
  go_wp2_with fail
  clear d0 d1 d2 d3 d4 ekk
  refine (unhide HCL).mono ?_
  rintro e w2 ⟨G0, us0, rfl, S0, hu0, hu1⟩
  have HL0 : Hid (LawIs w2 (.slice (some ⟨G0, 0, none⟩) n us0.length) (row (Stp.fol M f 0) n)) := S0.law_take hu1 (by omega) (row_length _ _) (fun j hj => by
    rw [row_get hj, ← unhide HM]
    show gs[j]! = _
    rw [List.getElem!_eq_getElem?_getD, List.getElem!_eq_getElem?_getD, List.getElem?_append_left (by rw [unhide HK]; exact hj)])
  have HB2 := hide S0.bl
  obtain ⟨k0, hk0⟩ : ∃ k, us0.length = k := ⟨_, rfl⟩
  rw [hk0] at HL0 ⊢
  clear S0 hu0 hu1 hk0 HCL
  go_wp2_with fail
  go_loopw [9, 30] (fun vv vq wr => ∃ (q : Nat) (av : Option Addr) (cv : Nat), vv = .slice av n cv ∧ vq = .int .i64 (q : Int) ∧ q ≤ times ∧ LawIs wr (.slice av n cv) (row (Stp.fol M f q) n) ∧ Below w1.heap.size w1 wr) (fun _ vq _ => times - (intOf vq).toNat)
  case atStart => exact ⟨0, _, _, rfl, rfl, Nat.zero_le _, unhide HL0, unhide HB2⟩
  case round =>
    obtain ⟨q, av, cv, rfl, rfl, hq, hL, hB⟩ := hrel
    clear HL0 HB2
    by_cases hlt : q < times
    rotate_left
    · obtain rfl : q = times := by omega
      have f1 : ¬ (q : Int) < (q : Int) := by omega
      have HR := hide hL
      have HBf := hide (below_step (unhide HB1) hB)
      clear hL hB
      go_wp2
      go_ret2
      exact Or.inl ⟨unhide HZ, _, rfl, by rw [unhide HM, unhide HN]; exact unhide HR, unhide HBf⟩
    · have f1 : (q : Int) < (times : Int) := by omega
      have XW := (unhide HX1).keep hB
      have ⟨d0, d1, d2, d3, d4⟩ := XW.cells _ (Below.refl _ _)
      rw [unhide HLN] at d0
      rw [unhide HMN] at d1
      have HCL := hide (rclone_any m.val gs wr XW.2.2.1 (by rw [unhide HK]; omega) (by rw [unhide HK]; omega))
      unfold ClonePost at HCL
      rw [unhide HK] at HCL
      simp only [Sl.val] at HCL
      rw [unhide HMN] at HCL
      have HXW := hide XW
      have HLW := hide hL
      have HBW := hide hB
      have HBRW := hide ((unhide HBR).below (below_step (unhide HB1) hB))
      clear XW hL hB
      go_wp2_with fail
      clear d0 d1 d2 d3 d4
      refine (unhide HCL).mono ?_
      rintro e w3 ⟨G2, us2, rfl, S2, hu0, hu1⟩
      obtain ⟨k2, hk2⟩ : ∃ k, us2.length = k := ⟨_, rfl⟩
      rw [hk2] at hu0 hu1 ⊢
      have HU1 := hide hu1
      have HU0 := hide hu0
      have HS2 : Hid (∃ q2 : List Rat, us2.length = k2 ∧ SumsAt wr w3 G2 us2 q2 ∧ ∀ j, j < n → q2[j]! = if j < 0 then Stp.fol M f (q + 1) j else gs[j]!) := ⟨_, hk2, S2, fun j hj => by
        rw [if_neg (Nat.not_lt_zero _), List.getElem!_eq_getElem?_getD, List.getElem?_append_left (by rw [unhide HK]; exact hj), ← List.getElem!_eq_getElem?_getD]⟩
      clear S2 hu0 hu1 hk2 HCL
      go_wp2_with fail
      obtain ⟨V, hV⟩ : ∃ V, wr = V := ⟨_, rfl⟩
      rw [hV] at HXW HLW HBW HBRW HS2
      clear hV
      go_loopw [38] (fun vj wv => ∃ (j : Nat) (us : List Tri) (q2 : List Rat), vj = .int .i64 (j : Int) ∧ j ≤ n ∧ us.length = k2 ∧ SumsAt V wv G2 us q2 ∧ ∀ i, i < n → q2[i]! = if i < j then Stp.fol M f (q + 1) i else gs[i]!) (fun vj _ => n - (intOf vj).toNat)
      case atStart =>
        obtain ⟨q2, h1, h2, h3⟩ := unhide HS2
        exact ⟨0, us2, q2, rfl, Nat.zero_le _, h1, h2, h3⟩
      case round =>
        obtain ⟨j, us, q2, rfl, hj, hus, S, hq2⟩ := hrel
        clear HS2
        by_cases hltj : j < n
        rotate_left
        · obtain rfl : j = n := by omega
          have f2 : ¬ (j : Int) < (j : Int) := by omega
          have hk := unhide HU1
          have hL := S.law_take (n := j) (ps := row (Stp.fol M f (q + 1)) j) (by omega) (by have := unhide HU0; omega) (row_length _ _) (fun i hi => by rw [row_get hi, hq2 i hi, if_pos hi])
          rw [hus] at hL
          have HL := hide hL
          have HBf := hide (below_step (unhide HBW) S.bl)
          clear S hL hq2 hk
          go_wp2_with fail
          exact ⟨⟨q + 1, _, _, rfl, by go_num, hlt, unhide HL, unhide HBf⟩, by simp [intOf]; omega⟩
        · have j1 : (j : Int) < (n : Int) := by omega
          have j0 : (0 : Int) ≤ (j : Int) := by omega
          have j2 : (j : Int) < (k2 : Int) := by have := unhide HU0; omega
          have hltP : j < P.length := by rw [unhide HN]; exact hltj
          obtain ⟨abt, cbt, ebt, _, _, hbt3⟩ := (unhide HBRW).below S.bl
          obtain ⟨bt, ot, ebt2, hbtl, hcbt⟩ := hbt3 (by omega)
          have eat : at_ = some ⟨bt, ot, none⟩ := by injection ebt with e1; rw [e1, ebt2]
          have kt := hcbt j hltj
          have HS := hide S
          have HUS := hide hus
          have HQ2 := hide hq2
          by_cases hf : f j = true
          · rw [hf] at kt
            have HNX : Hid (∀ i, i < n → q2[i]! = if i < j + 1 then Stp.fol M f (q + 1) i else gs[i]!) := fun i hi => by
              rw [unhide HQ2 i hi]
              by_cases e : i = j
              · subst e
                rw [if_neg (Nat.lt_irrefl _), if_pos (Nat.lt_succ_self _)]
                show _ = (if f i = true then M.g i else _)
                rw [if_pos hf, ← unhide HM]
                rfl
              · by_cases e2 : i < j
                · rw [if_pos e2, if_pos (by omega)]
                · rw [if_neg e2, if_neg (by omega)]
            rw [eat]
            clear S hus hq2 hf ebt ebt2 hcbt hbt3
            go_wp2_with fail
            exact ⟨⟨j + 1, us, q2, by go_num, hltj, unhide HUS, unhide HS, unhide HNX⟩, by simp [intOf]; omega⟩
          · have hf' : f j = false := by simpa using hf
            rw [hf'] at kt
            have MX := (unhide HXW).keep S.bl
            have ⟨d0, d1, d2, d3, d4⟩ := MX.cells _ (Below.refl _ _)
            rw [unhide HLN] at d0
            rw [unhide HMN] at d1
            have hon : Stp.on (chn P gs c) (bf (row (Stp.fol M f q) n)) j = Stp.on M (Stp.fol M f q) j := by
              rw [unhide HM]
              exact on_congr (fun k hk => row_get (by rw [unhide HMn] at hk; exact hk)) j
            have HGO := hide (going_any (cval l m t) (.slice av n cv) P gs c (row (Stp.fol M f q) n) j 200000 wr MX.chain (unhide HSM) (unhide HGM) hltP ((unhide HLW).below S.bl) (by rw [row_length]; exact (unhide HN).symm) (fun u hu => by
              rw [row_get (by rw [← unhide HN]; exact hu), ← unhide HM]
              exact fol_small (unhide HSM) (unhide HGM) (by omega) hu) (by rw [KKe]; omega))
            unfold cval at HGO
            rw [unhide HLN, unhide HMN, hon] at HGO
            rw [eat]
            clear S hus hq2 ebt ebt2 hcbt hbt3 MX hon hltP
            go_wp2_with fail
            refine (unhide HGO).mono ?_
            rintro e w5 ⟨v5, rfl, hv5, hb5⟩
            obtain ⟨t5, rfl, r5⟩ := tri_of hv5
            simp only [Tri.val]
            have S8 := (unhide HS).keep hb5
            have hju : j < us.length := by have h1 := unhide HUS; have h2 := unhide HU0; omega
            have ⟨⟨y0, y1, y2⟩, g0, g1, g2⟩ := S8.cells j hju
            have FZ := S8.set j hju t5 _ r5
            have hlen := S8.len
            obtain ⟨W9, hW9⟩ : ∃ W, ((w5.setCell ⟨G2, j * 3, none⟩ (.bool t5.s)).setCell ⟨G2, j * 3 + 1, none⟩ (.slice t5.a1 t5.n1 t5.c1)).setCell ⟨G2, j * 3 + 2, none⟩ (.slice t5.a2 t5.n2 t5.c2) = W := ⟨_, rfl⟩
            rw [hW9] at FZ
            have HFZ := hide FZ
            have HNX : Hid (∀ i, i < n → (q2.set j (Stp.on M (Stp.fol M f q) j))[i]! = if i < j + 1 then Stp.fol M f (q + 1) i else gs[i]!) := fun i hi => by
              by_cases e : i = j
              · subst e
                have e3 : (q2.set i (Stp.on M (Stp.fol M f q) i))[i]! = Stp.on M (Stp.fol M f q) i := by
                  have : i < q2.length := by omega
                  simp [this]
                rw [e3, if_pos (Nat.lt_succ_self _)]
                show _ = (if f i = true then M.g i else _)
                rw [if_neg hf]
              · have e3 : (q2.set j (Stp.on M (Stp.fol M f q) j))[i]! = q2[i]! := by simp [show ¬ j = i from fun x => e x.symm]
                rw [e3, unhide HQ2 i hi]
                by_cases e2 : i < j
                · rw [if_pos e2, if_pos (by omega)]
                · rw [if_neg e2, if_neg (by omega)]
            clear hv5 r5 hb5 S8 FZ hlen HGO d0 d1 d2 d3 d4 kt
            go_wp2_with fail
            exact ⟨⟨j + 1, _, _, by go_num, hltj, by rw [List.length_set]; exact unhide HUS, unhide HFZ, unhide HNX⟩, by simp [intOf]; omega⟩

end Go.Proofs.YtgpolilpgkhlkaaDoor
