/- RiskRows: the walk. -/
import Derived.Test.YtpopcfclpemlaaaDoorRR3b
import Derived.Test.YtpopcfclpemlaaaDoorRKC
import Derived.Test.YtpopcfclpemlaaaDoorK1
namespace Go.Proofs.YtpopcfclpemlaaaDoor
open Go.RowKit Go.Sort Go.Shelf

/-- The gates of a row that are there. -/
def RInv (gs : List Gt) (R : Nat → Nat → Int) (b i : Nat) : Prop := gs.length = i ∧ ∀ j, j < i → (gs[j]!).1 = 1 ∧ (gs[j]!).2.2.1 = b ∧ ∀ k, k < b → R j k = ((j + k : Nat) : Int)
theorem RInv.next {gs : List Gt} {R : Nat → Nat → Int} {b i : Nat} (h : RInv gs R b i) {g : Gt} {f : Nat → Int} (h1 : g.1 = 1) (h2 : g.2.2.1 = b) (hf : ∀ k, k < b → f k = ((i + k : Nat) : Int)) : RInv (gs ++ [g]) (fun j => if j = gs.length then f else R j) b (i + 1) := by
  obtain ⟨hl, h⟩ := h
  refine ⟨by rw [List.length_append, hl]; rfl, fun j hj => ?_⟩
  show _ ∧ _ ∧ ∀ k, k < b → (if j = gs.length then f else R j) k = _
  rcases Nat.lt_or_ge j gs.length with a | a
  · rw [getg_lt a, if_neg (by omega)]
    exact h j (by omega)
  · obtain rfl : j = gs.length := by omega
    rw [getg_eq, if_pos rfl]
    exact ⟨h1, h2, fun k hk => by rw [hl]; exact hf k hk⟩
theorem GSt.box_at {wb wr W w8 : World} {b11 : Nat} {vl vw : Value} {gs : List Gt} {R : Nat → Nat → Int} {xs : List Int} {L : Int} (h : GSt wb wr b11 vl gs R vw xs L) (hW : Below wr.heap.size wr W) (grow : W.grownBy w8 vw.ownBlock) : GBox w8 b11 L vw := by
  have k := h.keep hW
  exact k.gb.block (grow.block _ k.gb.lt (fun e => by have := (own_kind k.ow _ e.symm).1; omega))
theorem GSt.start {w W : World} {b11 : Nat} (h : w.alloc (.cells #[.int .i64 0, .slice none 0 0] 58) = W) (hb : w.heap.size = b11) : GSt w ((W.setCell ⟨b11, 0, none⟩ (.int .i64 0)).setCell ⟨b11, 1, none⟩ (.slice none 0 0)) b11 (.slice none 0 0) [] (fun _ _ => 0) (.slice none 0 0) (ngs 0) 0 := by
  subst h hb
  exact ⟨((alloc_below w _).setCell (p := ⟨w.heap.size, 0, none⟩) (Nat.le_refl _) _).setCell (p := ⟨w.heap.size, 1, none⟩) (Nat.le_refl _) _, Nat.le_refl _, ((GBox.new w 0 _).set0 _).set1 _, OwnL.start _ _, World.ownsRow_nil _ _ _ _, fun j hj => absurd hj (Nat.not_lt_zero _)⟩
theorem GSt.cast {wb wr : World} {b11 : Nat} {vl vw : Value} {gs : List Gt} {R : Nat → Nat → Int} {xs ys : List Int} {L : Int} (h : GSt wb wr b11 vl gs R vw xs L) (e : xs = ys) : GSt wb wr b11 vl gs R vw ys L := e ▸ h
theorem rg_e {gs : List Gt} {R : Nat → Nat → Int} {n b M : Nat} (h : RInv gs R b M) (hM : n + 1 - b = M) : ∀ j, j < gs.length → (gs[j]!).1 = (Rsk.rgates n b).L j ∧ (gs[j]!).2.2.1 = (Rsk.rgates n b).C j ∧ ∀ k, k < (Rsk.rgates n b).C j → R j k = (Rsk.rgates n b).R j k := by
  intro j hj
  obtain ⟨hl, h⟩ := h
  obtain ⟨e1, e2, e3⟩ := h j (by omega)
  show _ = (if j < n + 1 - b then (1 : Int) else _) ∧ _ = (if j < n + 1 - b then b else _) ∧ ∀ k, k < (if j < n + 1 - b then b else _) → _ = (if j < n + 1 - b then _ else _)
  rw [if_pos (by omega), if_pos (by omega)]
  exact ⟨e1, e2, fun k hk => by rw [if_pos (by omega)]; exact e3 k hk⟩
theorem rg_w {n b M : Nat} (hM : n + 1 - b = M) : (M : Int) = (Rsk.rgates n b).L M ∧ (ngs M).length = (Rsk.rgates n b).C M ∧ ∀ k, k < (ngs M).length → (ngs M)[k]! = (Rsk.rgates n b).R M k := by
  rw [ngs_length]
  show _ = (if M < n + 1 - b then (1 : Int) else ((n + 1 - b : Nat) : Int)) ∧ _ = (if M < n + 1 - b then b else n + 1 - b) ∧ ∀ k, k < M → _ = (if M < n + 1 - b then ((M + k : Nat) : Int) else -((k + 1 : Nat) : Int))
  rw [if_neg (by omega), if_neg (by omega), hM]
  exact ⟨rfl, rfl, fun k hk => by rw [if_neg (by omega), ngs_get hk]⟩
theorem GBox.grown {w W w8 : World} {b B : Nat} {L : Int} {v vg : Value} {xs : List Int} (h : GBox w b L v) (hW : Below w.heap.size w W) (how : OwnL w B vg xs) (hB : b < B) (grow : W.grownBy w8 vg.ownBlock) : GBox w8 b L v :=
  (h.block (hW.block b h.lt)).block (grow.block b (Nat.lt_of_lt_of_le h.lt hW.size) (fun e => by have := (own_kind how b e.symm).1; omega))
theorem inner_next {wo wr w8 : World} {b13 g8 cap8 : Nat} {vg : Value} {i k : Nat} {z : Int} (h13 : wo.heap.size = b13) (hgb : GBox wr b13 1 vg) (how : OwnL wr (b13 + 1) vg (fws i k)) (hbv : Below wo.heap.size wo wr) (hz : z = ((i + k : Nat) : Int))
    (own : w8.ownsRow (b13 + 1) 3 1 (.slice (some ⟨g8, 0, none⟩) ((fws i k).length + 1) cap8) ((fws i k).length + 1) ((fws i k).map (Value.int .i64 ·) ++ [.int .i64 z])) (grow : (wr.alloc (.cells #[.int .i64 z] 3)).grownBy w8 vg.ownBlock) :
    GBox w8 b13 1 vg ∧ GBox (w8.setCell ⟨b13, 1, none⟩ (.slice (some ⟨g8, 0, none⟩) ((fws i k).length + 1) cap8)) b13 1 (.slice (some ⟨g8, 0, none⟩) ((fws i k).length + 1) cap8) ∧ OwnL (w8.setCell ⟨b13, 1, none⟩ (.slice (some ⟨g8, 0, none⟩) ((fws i k).length + 1) cap8)) (b13 + 1) (.slice (some ⟨g8, 0, none⟩) ((fws i k).length + 1) cap8) (fws i (k + 1)) ∧ Below wo.heap.size wo (w8.setCell ⟨b13, 1, none⟩ (.slice (some ⟨g8, 0, none⟩) ((fws i k).length + 1) cap8)) := by
  have G8 := hgb.grown (abelow wr _) how (Nat.lt_succ_self _) grow
  have O8 := OwnL.push own
  refine ⟨G8, G8.set1 _, ?_, ?_⟩
  · rw [fws_next, ← hz]
    exact own_kept O8 fun b hb => heap_setCell_other w8 ⟨b13, 1, none⟩ b _ (by have := (own_kind O8 b hb).1; show b ≠ b13; omega)
  · exact (OwnL.grow how hbv (by omega) (abelow wr _) grow).setCell (p := ⟨b13, 1, none⟩) (by rw [h13]; exact Nat.le_refl _) _
theorem round1 {w5 wr W w9 : World} {b11 g1 cap1 i b : Nat} {vl vw : Value} {gs : List Gt} {R : Nat → Nat → Int} {ag : Option Addr} {cg : Nat} {f : Nat → Int} {L : Int} (h : GSt w5 wr b11 vl gs R vw (ngs i) L) (hR : RInv gs R b i) (hW : Below wr.heap.size wr W) (hfr : FRow W b11 vw ag b cg f) (hf : ∀ k, k < b → f k = ((i + k : Nat) : Int))
    (own : w9.ownsRow (b11 + 1) 58 2 (.slice (some ⟨g1, 0, none⟩) (i + 1) cap1) (i + 1) (gcells gs ++ [.int .i64 1, .slice ag b cg])) (grow : W.grownBy w9 vl.ownBlock) :
    ∃ gs' R', RInv gs' R' b (i + 1) ∧ GSt w5 w9 b11 (.slice (some ⟨g1, 0, none⟩) (i + 1) cap1) gs' R' vw (ngs i) L := by
  have hl := hR.1
  refine ⟨_, _, hR.next (g := (1, ag, b, cg)) (f := f) rfl rfl hf, ?_⟩
  subst hl
  exact GSt.addl h hW hfr own grow
theorem round2 {w5 w9 W w10 : World} {b11 g2 cap2 i c1 Hn : Nat} {vl vw : Value} {gs : List Gt} {R : Nat → Nat → Int} {L z : Int} (h : GSt w5 w9 b11 vl gs R vw (ngs i) L) (hW : Below w9.heap.size w9 W) (hc1 : i + 1 = c1) (hz : z = -(c1 : Int))
    (own : w10.ownsRow (b11 + 1) 3 1 (.slice (some ⟨g2, 0, none⟩) c1 cap2) c1 ((ngs i).map (Value.int .i64 ·) ++ [.int .i64 z])) (grow : W.grownBy w10 vw.ownBlock) (hat : vw.ownBlock = some g2 ∨ g2 = Hn) (hH : W.heap.size = Hn) :
    GBox w10 b11 L vw ∧ GSt w5 (w10.setCell ⟨b11, 1, none⟩ (.slice (some ⟨g2, 0, none⟩) c1 cap2)) b11 vl gs R (.slice (some ⟨g2, 0, none⟩) c1 cap2) (ngs c1) L := by
  have hl := ngs_length i
  refine ⟨h.box_at hW grow, ?_⟩
  subst hc1
  have e : (ngs i).length + 1 = i + 1 := by rw [hl]
  rw [← e] at own ⊢
  have := (h.addw hW own grow hat hH).cast (show ngs i ++ [z] = ngs (i + 1) by rw [ngs_next, hz])
  rw [e] at this ⊢
  exact this
theorem own_alloc {w : World} {B : Nat} {e : TypeId} {size : Nat} {v : Value} {n : Nat} {xs : List Value} (h : w.ownsRow B e size v n xs) (o : Obj) : (w.alloc o).ownsRow B e size v n xs := own_kept h fun k hk => (alloc_below w o).block k (own_kind h k hk).2.1
theorem frac_next {wo wr w8 : World} {j g8 cap8 : Nat} {va : Value} {t : Tri} {o : Obj} (h : wr.ownsRow wo.heap.size 31 3 va j (tcells (List.replicate j t))) (hb : Below wo.heap.size wo wr)
    (own : w8.ownsRow wo.heap.size 31 3 (.slice (some ⟨g8, 0, none⟩) (j + 1) cap8) (j + 1) (tcells (List.replicate j t) ++ t.cells)) (grow : (wr.alloc o).grownBy w8 va.ownBlock) :
    w8.ownsRow wo.heap.size 31 3 (.slice (some ⟨g8, 0, none⟩) (j + 1) cap8) (j + 1) (tcells (List.replicate (j + 1) t)) ∧ Below wo.heap.size wo w8 := by
  rw [tcells_more] at own
  exact ⟨own, Below.grown (below_step hb (alloc_below wr o)) grow (Nat.le_trans hb.size (alloc_below wr o).size) (fun k hk => (own_kind h k hk).1)⟩
theorem ty_ne2 : (31 : TypeId) ≠ 58 := by decide
theorem frac_kept {w W w9 : World} {B B2 n m : Nat} {va vl : Value} {xs ys : List Value} (h : w.ownsRow B 31 3 va n xs) (hW : Below w.heap.size w W) (hl : w.ownsRow B2 58 2 vl m ys) (grow : W.grownBy w9 vl.ownBlock) : w9.ownsRow B 31 3 va n xs :=
  own_kept h fun k hk => by
    obtain ⟨_, h2, c, h3⟩ := own_kind h k hk
    rw [grow.block k (Nat.lt_of_lt_of_le h2 hW.size) (fun e => by
      obtain ⟨_, _, c', h4⟩ := own_kind hl k e.symm
      rw [h3] at h4
      injection h4 with e1; injection e1 with _ e2
      exact ty_ne2 e2), hW.block k h2]
theorem rv_RS {q rv : Rat} {n b : Nat} (hq : RS q 1) (hn : n ≤ 6) (hb : b ≤ 4) (e : Rsk.rwv q (Rsk.pwr (((1 : Int) : Rat) - q) b) b n = rv) : RS rv 3000 := by
  rw [← e]
  have hm : RS (((1 : Int) : Rat) - q) 3 := (one_RSi.sub' hq).mono (by decide)
  have hf : RS (Rsk.pwr (((1 : Int) : Rat) - q) b) 13 := (pwr_RS hm b).mono (by omega)
  exact (rwv_RS hq hf (by decide) n).mono (Nat.le_trans (szr_mono 13 hn) (by simp [szr]))
theorem own2_at {w5 w9 : World} {b11 i : Nat} {vl vw : Value} {gs : List Gt} {R : Nat → Nat → Int} {L : Int} (h : GSt w5 w9 b11 vl gs R vw (ngs i) L) (z : Int) : (w9.alloc (.cells #[.int .i64 z] 3)).ownsRow (b11 + 1) 3 1 vw i ((ngs i).map (Value.int .i64 ·)) := by
  have := h.ow.keep (abelow w9 (.cells #[.int .i64 z] 3))
  unfold OwnL at this
  rw [ngs_length] at this
  exact this
theorem szj6 : szj 1 6 + 1 + 8 ≤ 1000 := by decide
theorem fin_step {w5 wr wo : World} {b11 i n b : Nat} {vl va : Value} {gs : List Gt} {R : Nat → Nat → Int} {aw : Option Addr} {cw : Nat} {t7 : Tri} {q rv : Rat} (h : GSt w5 wr b11 vl gs R (.slice aw i cw) (ngs i) (i : Int)) (hR : RInv gs R b i) (hM : n + 1 - b = i) (hn : 1 ≤ n ∧ n ≤ 6) (hb : 1 ≤ b ∧ b ≤ 4) (hva : wr.ownsRow wo.heap.size 31 3 va n (tcells (List.replicate n t7))) (hic : icB q = true) (hq : RS q 1) (hrv : Rsk.rwv q (Rsk.pwr (((1 : Int) : Rat) - q) b) b n = rv)
    (hx : ∀ W, Below w5.heap.size w5 W → RatIs W t7.val q) :
    ∀ (g1 cap1 : Nat) (w9 : World), w9.ownsRow (b11 + 1) 58 2 (.slice (some ⟨g1, 0, none⟩) (i + 1) cap1) (i + 1) (gcells gs ++ [.int .i64 (i : Int), .slice aw i cw]) → (wr.alloc (.cells #[.int .i64 (i : Int), .slice aw i cw] 58)).grownBy w9 vl.ownBlock →
      (Calls Tryd.prog 12 #[.slice (some ⟨g1, 0, none⟩) (i + 1) cap1, va] w9 fun e w' => ∃ u, e = .returned (.tuple #[u, .nilIface]) ∧ RatIs w' u rv ∧ Below w9.heap.size w9 w') ∧ Below w5.heap.size w5 w9 := by
  intro g1 cap1 w9 own grow
  have hl := hR.1
  have hM' := hM
  obtain ⟨r1, r2, r3⟩ := rg_w hM
  have e := rg_e hR hM
  have hvk := frac_kept hva (alloc_below wr _) h.ol grow
  rw [← hl] at own r1 r2 r3
  have own' : w9.ownsRow (b11 + 1) 58 2 (.slice (some ⟨g1, 0, none⟩) (gs.length + 1) cap1) (gs.length + 1) (gcells gs ++ [.int .i64 (i : Int), .slice aw i cw]) := by
    have e2 : (gs.length : Int) = (i : Int) := by omega
    rw [hl] at own ⊢
    exact own
  obtain ⟨⟨H, hG⟩, hB⟩ := GSt.whole (G := Rsk.rgates n b) h (alloc_below wr _) own' grow e (by rw [← r1, hl]) (by rw [← r2, hl]) (by rw [hl] at r3 ⊢; exact r3)
  refine ⟨?_, hB⟩
  have LW := law_same hvk (hx w9 hB)
  have hk : ccode (Rsk.rgates n b) (n + 1 - b + 1) (List.replicate n q) = 0 := rg_ccode hn.1 hn.2 hb.1 hb.2 hic
  rw [hM'] at hk
  rw [hl] at hG
  refine (rChance_ok _ (i + 1) cap1 (Rsk.rgates n b) H va (List.replicate n q) 1 1000 w9 hG LW (fun j hj => by
    rw [List.length_replicate] at hj
    have e : (List.replicate n q)[j]! = q := by simp [hj]
    rw [e]; exact hq) (by decide) hk (by rw [List.length_replicate]; have := szj_mono 1 hn.2; have := szj6; omega) (by decide)).mono ?_
  rintro e w' ⟨u, rfl, hu, hbw⟩
  refine ⟨u, rfl, ?_, hbw⟩
  have ch := rg_chance q hn.1 hn.2 hb.1 hb.2
  rw [hM', hrv] at ch
  rw [List.length_replicate, ch] at hu
  exact hu

set_option maxHeartbeats 16000000 in
set_option maxRecDepth 100000 in
set_option linter.unusedSimpArgs false in
theorem riskRows_any (n0 b0 x y : Int) (w : World) (htab : Tab w) (hx : I64 x) (hy : I64 y) :
    Calls Tryd.prog 5 #[.int .i64 n0, .int .i64 b0, .agg #[.int .i64 x, .int .i64 y]] w fun e w' => e = .returned (.bool true) ∧ Below w.heap.size w w' := by
  have KKe : KK = 1099511627776 := rfl
  have b0_ := alloc_below w (.cells #[.int .i64 x, .int .i64 y] 54)
  have X0 := heap_alloc_new w (.cells #[.int .i64 x, .int .i64 y] 54)
  obtain ⟨W0, hW0⟩ : ∃ W, w.alloc (.cells #[.int .i64 x, .int .i64 y] 54) = W := ⟨_, rfl⟩
  obtain ⟨p5, hp5⟩ : ∃ b, w.heap.size = b := ⟨_, rfl⟩
  rw [hW0] at b0_ X0
  rw [hp5] at X0
  have HCC : Hid (∀ W, Below W0.heap.size W0 W → (fun w' : World => w'.cell? ⟨p5, 0, none⟩ = some (.int .i64 x) ∧ w'.cell? ⟨p5, 1, none⟩ = some (.int .i64 y)) W) := fun W hW => by
    have e1 := heap_kept X0 hW
    exact ⟨by simp [World.cell?, e1], by simp [World.cell?, e1]⟩
  have HB0 := hide b0_
  have HTB : Hid (∀ W, Below W0.heap.size W0 W → Tab W) := fun W hW => tab_below htab (below_step (unhide HB0) hW)
  have HFQ : Hid (∀ W, Calls Tryd.prog 25 #[.agg #[.int .i64 x, .int .i64 y]] W fun e w' => ∃ v, e = .returned v ∧ RatIs w' v (pq (x, y)) ∧ Below W.heap.size W w') := fun W => f_any x y hx.1 hx.2 hy.1 hy.2 W
  have HRQ : Hid (RS (pq (x, y)) 1) := pq_RS hx hy
  obtain ⟨q, hq⟩ : ∃ q, pq (x, y) = q := ⟨_, rfl⟩
  rw [hq] at HFQ HRQ
  have HPN := hide (pick_any n0 6 (by decide) (by decide) W0)
  have HPB := hide (pick_any b0 4 (by decide) (by decide) W0)
  clear hx hy hq X0 b0_ htab
  go_enter Tryd.func5, Tryd.ntmps5
  go_wp2_with fail
  clear hW0 hp5
  refine (unhide HPN).mono ?_
  rintro e w1 ⟨m, rfl, hm, hw⟩
  have hw' := hw.symm
  subst hw'
  clear hw HPN
  obtain ⟨n, hn⟩ : ∃ n, 1 + m = n := ⟨_, rfl⟩
  have jn : 1 + (m : Int) = (n : Int) := by omega
  have jnw : IntKind.i64.wrap (n : Int) = (n : Int) := by rw [IntKind.wrap_i64]; omega
  have HN1 : Hid (1 ≤ n ∧ n ≤ 6) := ⟨by omega, by omega⟩
  go_wp2_with fail
  refine (unhide HPB).mono ?_
  rintro e w2 ⟨k, rfl, hk, hw⟩
  have hw' := hw.symm
  subst hw'
  clear hw HPB
  obtain ⟨b, hb⟩ : ∃ n, 1 + k = n := ⟨_, rfl⟩
  have jb : 1 + (k : Int) = (b : Int) := by omega
  have jbw : IntKind.i64.wrap (b : Int) = (b : Int) := by rw [IntKind.wrap_i64]; omega
  have HBB1 : Hid (1 ≤ b ∧ b ≤ 4) := ⟨by omega, by omega⟩
  have ⟨z0, z1⟩ := unhide HCC W0 (Below.refl _ _)
  clear hm hk hn hb
  go_wp2_with fail
  clear jn jb jnw jbw
  refine (unhide HFQ W0).mono ?_
  rintro e w3 ⟨v3, rfl, hv3, hb3⟩
  obtain ⟨t7, rfl, r3⟩ := tri_of hv3
  simp only [Tri.val]
  have X3 := BoxIs.new r3
  have b3 := below_step hb3 (alloc_below w3 (.cells #[.bool t7.s, .slice t7.a1 t7.n1 t7.c1, .slice t7.a2 t7.n2 t7.c2] 31))
  obtain ⟨W3, hW3⟩ : ∃ W, w3.alloc (.cells #[.bool t7.s, .slice t7.a1 t7.n1 t7.c1, .slice t7.a2 t7.n2 t7.c2] 31) = W := ⟨_, rfl⟩
  obtain ⟨b7, hb7⟩ : ∃ b, w3.heap.size = b := ⟨_, rfl⟩
  rw [hW3] at X3 b3
  rw [hb7] at X3
  have HX7 : Hid (∀ W, Below W3.heap.size W3 W → BoxIs W b7 t7 q) := fun W hW => X3.keep hW
  have HB3 := hide b3
  have HR7 := hide X3.2
  have ⟨y0, y1, y2⟩ := X3.cells _ (Below.refl _ _)
  clear hv3 r3 X3 b3 hb3 HFQ z0 z1 HCC
  cases hic : icB q with
  | false =>
    have HRW := hide (rRow_arg (n : Int) (b : Int) t7.val q 1 W3 (unhide HR7) (unhide HRQ) (by decide) (by rw [KKe]; decide) (by omega) (by have := unhide HN1; omega) (by have := unhide HBB1; omega) (by have := unhide HBB1; omega) hic)
    simp only [Tri.val] at HRW
    clear hic
    go_wp2_with fail
    clear hW3 hb7 y0 y1 y2
    refine (unhide HRW).mono ?_
    rintro e w4 ⟨rfl, hb4⟩
    have X4 := BoxIs.new (w := w4) (t := zTri) (q := 0) (rat_zero _)
    have b4 := below_step hb4 (alloc_below w4 (.cells #[.bool false, .slice none 0 0, .slice none 0 0] 31))
    obtain ⟨W4, hW4⟩ : ∃ W, w4.alloc (.cells #[.bool false, .slice none 0 0, .slice none 0 0] 31) = W := ⟨_, rfl⟩
    obtain ⟨b8, hb8⟩ : ∃ b, w4.heap.size = b := ⟨_, rfl⟩
    have X4' : BoxIs W4 b8 zTri 0 := by rw [← hW4, ← hb8]; exact X4
    rw [hW4] at b4
    have X5 := X4'.set (t' := zTri) (q' := 0) (rat_zero _)
    have e8 : W3.heap.size ≤ b8 := by rw [← hb8]; exact hb4.size
    have b5 := ((b4.setCell (p := ⟨b8, 0, none⟩) e8 (.bool false)).setCell (p := ⟨b8, 1, none⟩) e8 (.slice none 0 0)).setCell (p := ⟨b8, 2, none⟩) e8 (.slice none 0 0)
    have ⟨g0, g1, g2, f0, f1, f2⟩ := box_cell X4'.1
    have HX5_ := hide X5
    have HB5_ := hide (below_step (unhide HB3) b5)
    clear X4 X4' b4 hb4 HRW HX7 X5 b5 e8
    go_wp2_with fail
    clear hW4 hb8 g0 g1 g2 f0 f1 f2
    obtain ⟨W5, hW5⟩ : ∃ W, ((W4.setCell ⟨b8, 0, none⟩ (.bool false)).setCell ⟨b8, 1, none⟩ (.slice none 0 0)).setCell ⟨b8, 2, none⟩ (.slice none 0 0) = W := ⟨_, rfl⟩
    have HX8 := hide (fun W (hW : Below W5.heap.size W5 W) => show BoxIs W b8 zTri 0 from by
      have := unhide HX5_
      rw [show ((W4.setCell ⟨b8, 0, none⟩ (.bool zTri.s)).setCell ⟨b8, 1, none⟩ (.slice zTri.a1 zTri.n1 zTri.c1)).setCell ⟨b8, 2, none⟩ (.slice zTri.a2 zTri.n2 zTri.c2) = W5 from hW5] at this
      exact this.keep hW)
    have HB4 : Hid (Below W0.heap.size W0 W5) := by
      have := unhide HB5_
      rw [hW5] at this
      exact this
    rw [hW5]
    clear hW5 HX5_ HB5_
    refine (joined_any W5 (unhide HTB W5 (unhide HB4))).mono ?_
    rintro e w5 ⟨rfl, hb5⟩
    have HX5 := hide (fun W (hW : Below w5.heap.size w5 W) => unhide HX8 W (below_step hb5 hW))
    have HB5 := hide (below_step (unhide HB4) hb5)
    clear hb5 HB4 HX8
    go_wp2_with fail
    refine (joined_any w5 (unhide HTB w5 (unhide HB5))).mono ?_
    rintro e w6 ⟨rfl, hb6⟩
    have X6 := unhide HX5 _ hb6
    have HSG := hide (sign_any zTri.val 0 w6 X6.2)
    have ⟨c0, c1, c2, _⟩ := box_cell X6.1
    have HB6 := hide (below_step (unhide HB0) (below_step (unhide HB5) hb6))
    clear hb6 HB5 HX5 X6
    go_wp2_with fail
    refine (unhide HSG).mono ?_
    rintro e w7 ⟨rfl, hb7⟩
    have HB7 := hide (below_step (unhide HB6) hb7)
    clear hb7 HB6 HSG c0 c1 c2
    go_wp2
    go_ret
    exact ⟨rfl, unhide HB7⟩
  | true =>
    have HRW := hide (rRow_ok n b t7.val q W3 (unhide HR7) (unhide HRQ) hic (by have := unhide HN1; omega) (unhide HBB1).1 (by have := unhide HBB1; omega))
    simp only [Tri.val] at HRW
    have HIC := hide hic
    clear hic
    go_wp2_with fail
    clear hW3 hb7 y0 y1 y2
    refine (unhide HRW).mono ?_
    rintro e w4 ⟨v4, rfl, hv4, hb4⟩
    obtain ⟨t8, rfl, r4⟩ := tri_of hv4
    simp only [Tri.val]
    have X4 := BoxIs.new r4
    have b4 := below_step hb4 (alloc_below w4 (.cells #[.bool t8.s, .slice t8.a1 t8.n1 t8.c1, .slice t8.a2 t8.n2 t8.c2] 31))
    obtain ⟨W4, hW4⟩ : ∃ W, w4.alloc (.cells #[.bool t8.s, .slice t8.a1 t8.n1 t8.c1, .slice t8.a2 t8.n2 t8.c2] 31) = W := ⟨_, rfl⟩
    obtain ⟨b8, hb8⟩ : ∃ b, w4.heap.size = b := ⟨_, rfl⟩
    rw [hW4] at X4 b4
    rw [hb8] at X4
    obtain ⟨rv, hrv⟩ : ∃ r, Rsk.rwv q (Rsk.pwr (((1 : Int) : Rat) - q) b) b n = r := ⟨_, rfl⟩
    rw [hrv] at X4
    have HRV := hide hrv
    have HX8 : Hid (∀ W, Below W4.heap.size W4 W → BoxIs W b7 t7 q ∧ BoxIs W b8 t8 rv) := fun W hW => ⟨unhide HX7 W (below_step b4 hW), X4.keep hW⟩
    have HB4 := hide (below_step (unhide HB3) b4)
    clear X4 b4 hb4 HRW HX7 hv4 r4 hrv
    go_wp2_with fail
    clear hW4 hb8
    refine (joined_any W4 (unhide HTB W4 (unhide HB4))).mono ?_
    rintro e w5 ⟨rfl, hb5⟩
    have HX5 := hide (fun W (hW : Below w5.heap.size w5 W) => unhide HX8 W (below_step hb5 hW))
    have HB5 := hide (below_step (unhide HB4) hb5)
    clear hb5 HB4 HX8
    obtain ⟨W6, hW6⟩ : ∃ W, w5.alloc (.cells #[.int .i64 0, .slice none 0 0] 58) = W := ⟨_, rfl⟩
    obtain ⟨b11, hb11⟩ : ∃ b, w5.heap.size = b := ⟨_, rfl⟩
    have HST := hide (GSt.start hW6 hb11)
    have GB0 : GBox W6 b11 0 (.slice none 0 0) := by rw [← hW6, ← hb11]; exact GBox.new w5 0 _
    have ⟨x0, x1⟩ := GB0.cells
    have x2 := GB0.free 0
    have x3 := GB0.free 1
    have x4 := (GB0.set0 0).cells.2
    have x5 := (GB0.set0 0).free 1
    clear GB0
    obtain ⟨M, hM⟩ : ∃ M, n + 1 - b = M := ⟨_, rfl⟩
    have HM := hide hM
    obtain ⟨ti, hi, hz0, hz1, hz2⟩ := info_parts Tryd.infoI
    have HI := hide hi
    have HZ := hide hz0
    obtain ⟨tg, hgi, hgz0, hgz1, hgz2⟩ := info_parts Tryd.infoG
    have HGI := hide hgi
    have HGZ := hide hgz0
    obtain ⟨tr, hri, hrz0, hrz1, hrz2⟩ := info_parts Tryd.infoR
    have HRI := hide hri
    have HRZ := hide hrz0
    have hn6 := (unhide HN1).2
    have hb4' := unhide HBB1
    clear hi hz0 hgi hgz0 hri hrz0
    go_wp2_with fail
    clear hW6 hb11 x0 x1 x2 x3 x4 x5
    go_loopw [10, 12] (fun vl' vi wr => ∃ (i : Nat) (gs : List Gt) (R : Nat → Nat → Int) (vw : Value), vi = .int .i64 (i : Int) ∧ i ≤ M ∧ RInv gs R b i ∧ GSt w5 wr b11 vl' gs R vw (ngs i) (i : Int)) (fun _ vi _ => M - (intOf vi).toNat)
    case atStart => exact ⟨0, [], _, _, rfl, Nat.zero_le _, ⟨rfl, fun j hj => absurd hj (Nat.not_lt_zero _)⟩, unhide HST⟩
    case round =>
      obtain ⟨i, gs, R, vw, rfl, hi, hri, hgs⟩ := hrel
      clear HST
      obtain ⟨vl, hvl⟩ : ∃ v, v = u10 := ⟨_, rfl⟩
      subst hvl
      have HGS := hide hgs
      have HRV2 := hide hri
      have jw : IntKind.i64.wrap ((i : Int) + (b : Int)) = (i : Int) + (b : Int) := by rw [IntKind.wrap_i64]; omega
      by_cases hlt : i < M
      · have HLT := hide hlt
        have j1 : (i : Int) + (b : Int) ≤ (n : Int) := by omega
        obtain ⟨wo, hwo⟩ : ∃ W, W = wr := ⟨_, rfl⟩
        subst hwo
        have hgb := alloc_below wo (.cells #[.int .i64 1, .slice none 0 0] 58)
        have GB := GBox.new wo 1 (.slice none 0 0)
        obtain ⟨W7, hW7⟩ : ∃ W, wo.alloc (.cells #[.int .i64 1, .slice none 0 0] 58) = W := ⟨_, rfl⟩
        obtain ⟨b13, hb13⟩ : ∃ b, wo.heap.size = b := ⟨_, rfl⟩
        rw [hW7] at hgb GB
        rw [hb13] at GB
        have HGB := hide (GB.set1 (.slice none 0 0))
        have HBG := hide (hgb.setCell (p := ⟨b13, 1, none⟩) (by rw [← hb13]; exact Nat.le_refl _) (.slice none 0 0))
        have HB13 := hide hb13
        have x1 := GB.cells.2
        have x2 := GB.free 1
        clear hgb GB hgs hri
        go_wp2_with fail
        clear hW7 x1 x2
        go_loopw [14] (fun vk wv => ∃ (k : Nat) (vg : Value), vk = .int .i64 (k : Int) ∧ k ≤ b ∧ GBox wv b13 1 vg ∧ OwnL wv (b13 + 1) vg (fws i k) ∧ Below wo.heap.size wo wv) (fun vk _ => b - (intOf vk).toNat)
        case atStart => exact ⟨0, _, rfl, Nat.zero_le _, unhide HGB, OwnL.start _ _, unhide HBG⟩
        case round =>
          obtain ⟨k, vg, rfl, hk, hgb, how, hbv⟩ := hrel
          have HGBV := hide hgb
          have HOV := hide how
          have HBV := hide hbv
          by_cases hkl : k < b
          · have HKL := hide hkl
            have k1 : (k : Int) < (b : Int) := by omega
            obtain ⟨z, jz⟩ : ∃ z : Int, (i : Int) + (k : Int) = z := ⟨_, rfl⟩
            have jzw : IntKind.i64.wrap z = z := by rw [IntKind.wrap_i64]; omega
            have HZE : Hid (z = ((i + k : Nat) : Int)) := show _ = _ by rw [← jz]; push_cast; rfl
            have ⟨_, x1⟩ := hgb.cells
            have HO4 := hide (how.keep (abelow wr (.cells #[.int .i64 z] 3)))
            have hfl := fws_length i k
            have Q63 : Hid ((fws i k).length + 1 ≤ maxLen) := by show _ ≤ _; unfold maxLen; omega
            have Q8 : Hid (((fws i k).length + 1) * 8 ≤ 140737488355328) := by show _ ≤ _; omega
            have QB : Hid (b13 + 1 ≤ (wr.alloc (.cells #[.int .i64 z] 3)).heap.size) := Nat.le_trans hgb.lt (abelow wr _).size
            clear hgb how hbv hfl hkl
            go_wp2_with (at_builtin; go_loud (refine wpList_append_lies _ rfl _ _ _ rfl (b13 + 1) 3 ti (.int .i64 0) 1 8 Tryd.underlying45 (unhide HI) (unhide HZ) hz1 hz2 rfl (by decide) _ (fws i k).length ((fws i k).map (Value.int .i64 ·)) rfl (unhide HO4) ⟨wr.heap.size, 0, none⟩ 1 1 [.int .i64 z] rfl rfl (news_int wr _ _) (one_int _) (by decide) (unhide Q63) (unhide Q8) (unhide QB) (wr.heap.size + 1) (alloc_size _ _) ?_; intro g8 cap8 w8 own8 grow8 hat8 hlt8; have NX := inner_next (unhide HB13) (unhide HGBV) (unhide HOV) (unhide HBV) (unhide HZE) own8 grow8; have ⟨_, y1⟩ := NX.1.cells; have y2 := NX.1.free 1; have HNX := hide NX.2; clear NX own8 grow8 hat8 hlt8))
            exact ⟨⟨k + 1, _, by go_num, unhide HKL, (unhide HNX).1, (unhide HNX).2.1, (unhide HNX).2.2⟩, by have := unhide HKL; simp [intOf]; omega⟩
          · have k1 : ¬ (k : Int) < (b : Int) := by omega
            have hkb : k = b := by omega
            rw [hkb] at how
            have HGSr := hide ((unhide HGS).keep hbv)
            have hvk : ∀ k, vw.ownBlock = some k → k < b13 + 1 := fun k hk => by
              have := (own_kind (unhide HGS).ow k hk).2.1
              have := unhide HB13
              omega
            obtain ⟨ag, cg, hvg, hfr⟩ := frow_of (b11 := b11) (vw := vw) how (by rw [fws_length]; exact (unhide HBB1).1) (by have := (unhide HGS).gb.lt; have := unhide HB13; omega) hvk
            rw [fws_length] at hvg hfr
            subst hvg
            have ⟨x0, x1⟩ := hgb.cells
            have HFR := hide (hfr.kept (vx := vw) (w' := wr.alloc (.cells #[.int .i64 1, .slice ag b cg] 58)) (fun b hb hl _ hv => ⟨(alloc_below wr _).block b hl, hv⟩) (alloc_below wr _).size)
            have HO1 : Hid ((wr.alloc (.cells #[.int .i64 1, .slice ag b cg] 58)).ownsRow (b11 + 1) 58 2 vl i (gcells gs)) := by
              have := own_alloc (unhide HGSr).ol (.cells #[.int .i64 1, .slice ag b cg] 58)
              rw [(unhide HRV2).1] at this
              exact this
            obtain ⟨c1, hc1⟩ : ∃ c, i + 1 = c := ⟨_, rfl⟩
            obtain ⟨z, jz⟩ : ∃ z : Int, -(c1 : Int) = z := ⟨_, rfl⟩
            have jzw : IntKind.i64.wrap z = z := by rw [IntKind.wrap_i64]; omega
            have jc : (i : Int) + 1 = (c1 : Int) := by omega
            have jcw : IntKind.i64.wrap (c1 : Int) = (c1 : Int) := by rw [IntKind.wrap_i64]; omega
            have HC1 := hide hc1
            have HZ1 : Hid (z = -(c1 : Int)) := jz.symm
            have Q63 : Hid (i + 1 ≤ maxLen) := by show _ ≤ _; unfold maxLen; omega
            have Q8 : Hid ((i + 1) * 8 ≤ 140737488355328) := by show _ ≤ _; omega
            have Q32 : Hid ((i + 1) * 32 ≤ 140737488355328) := by show _ ≤ _; omega
            have QB : Hid (b11 + 1 ≤ (wr.alloc (.cells #[.int .i64 1, .slice ag b cg] 58)).heap.size) := Nat.le_trans (unhide HGSr).gb.lt (alloc_below wr _).size
            clear hgb how hbv hfr hkl hk hkb hvk hc1 HGBV HOV HBV
            go_wp2_with (first | (at_builtin; refine wpList_append_lies _ rfl (.tmp 67) (.tmp 69) 22 rfl (b11 + 1) 58 tg (.agg zG) 2 32 Tryd.underlying22 (unhide HGI) (unhide HGZ) hgz1 hgz2 rfl (by decide) _ i (gcells gs) rfl (unhide HO1) ⟨wr.heap.size, 0, none⟩ 1 1 [.int .i64 1, .slice ag b cg] rfl rfl (news_gate wr (1, ag, b, cg) _) (gtc_one (1, ag, b, cg)) (by decide) (unhide Q63) (unhide Q32) (unhide QB) (wr.heap.size + 1) (alloc_size _ _) ?_; intro g1 cap1 w9 own9 grow9 hat9 hlt9; obtain ⟨gs', R', hri', hgs'⟩ := round1 (unhide HGSr) (unhide HRV2) (alloc_below wr _) (unhide HFR) (fun k hk => fws_get hk) own9 grow9; rw [unhide HC1] at hri' hgs' ⊢; have ⟨y0, y1⟩ := hgs'.gb.cells; have HG9 := hide hgs'; have HR9 := hide hri'; have HO2 := hide (own2_at hgs' z); have QB2 : Hid (b11 + 1 ≤ (w9.alloc (.cells #[.int .i64 z] 3)).heap.size) := Nat.le_trans hgs'.gb.lt (abelow w9 _).size; clear own9 grow9 hat9 hlt9 hgs' hri' x0 x1) | (at_builtin; refine wpList_append_lies _ rfl (.tmp 72) (.tmp 76) 45 rfl (b11 + 1) 3 ti (.int .i64 0) 1 8 Tryd.underlying45 (unhide HI) (unhide HZ) hz1 hz2 rfl (by decide) _ i ((ngs i).map (Value.int .i64 ·)) rfl (unhide HO2) ⟨w9.heap.size, 0, none⟩ 1 1 [.int .i64 z] rfl rfl (news_int w9 _ _) (one_int _) (by decide) (unhide Q63) (unhide Q8) (unhide QB2) (w9.heap.size + 1) (alloc_size _ _) ?_; intro g2 cap2 w10 own10 grow10 hat10 hlt10; rw [unhide HC1] at own10 ⊢; have RR := round2 (unhide HG9) (abelow w9 _) (unhide HC1) (unhide HZ1) own10 grow10 hat10 (alloc_size _ _); have ⟨e0, e1⟩ := RR.1.cells; have e2 := RR.1.free 1; have ⟨e3, e4⟩ := RR.2.gb.cells; have e5 := RR.2.gb.free 0; have HG11 := hide (RR.2.asks (c1 : Int)); clear own10 grow10 hat10 hlt10 y0 y1 RR))
            exact ⟨⟨c1, _, _, _, by go_num, by have := unhide HLT; have := unhide HC1; omega, unhide HR9, unhide HG11⟩, by have := unhide HLT; have := unhide HC1; simp [intOf]; omega⟩
      · have j1 : ¬ (i : Int) + (b : Int) ≤ (n : Int) := by omega
        have hiM : i = M := by omega
        subst hiM
        obtain ⟨wo, hwo⟩ : ∃ W, W = wr := ⟨_, rfl⟩
        subst hwo
        have HXW : Hid (∀ W, Below wo.heap.size wo W → BoxIs W b7 t7 q ∧ BoxIs W b8 t8 rv) := fun W hW => unhide HX5 W (below_step (unhide HGS).bl hW)
        clear hgs hri hlt
        go_wp2_with fail
        go_loopw [15, 16] (fun va' vj wr => ∃ j : Nat, vj = .int .i64 (j : Int) ∧ j ≤ n ∧ wr.ownsRow wo.heap.size 31 3 va' j (tcells (List.replicate j t7)) ∧ Below wo.heap.size wo wr) (fun _ vj _ => n - (intOf vj).toNat)
        case atStart => exact ⟨0, rfl, Nat.zero_le _, World.ownsRow_nil _ _ _ _, Below.refl _ _⟩
        case round =>
          obtain ⟨j, rfl, hj, hva, hbv⟩ := hrel
          obtain ⟨va, hva'⟩ : ∃ v, v = u15 := ⟨_, rfl⟩
          subst hva'
          have HVA := hide hva
          have HBV := hide hbv
          by_cases hjl : j < n
          · have HJL := hide hjl
            have k1 : (j : Int) < (n : Int) := by omega
            have ⟨c0, c1, c2⟩ := (unhide HXW _ hbv).1.cells _ (Below.refl _ _)
            have HO4 := hide (own_alloc hva (.cells #[.bool t7.s, .slice t7.a1 t7.n1 t7.c1, .slice t7.a2 t7.n2 t7.c2] 31))
            have Q63 : Hid (j + 1 ≤ maxLen) := by show _ ≤ _; unfold maxLen; omega
            have Q56 : Hid ((j + 1) * 56 ≤ 140737488355328) := by show _ ≤ _; omega
            have QB : Hid (wo.heap.size ≤ (wr.alloc (.cells #[.bool t7.s, .slice t7.a1 t7.n1 t7.c1, .slice t7.a2 t7.n2 t7.c2] 31)).heap.size) := Nat.le_trans hbv.size (alloc_below wr _).size
            clear hva hbv hjl
            go_wp2_with (at_builtin; refine wpList_append_lies _ rfl (.tmp 88) (.tmp 90) 26 rfl wo.heap.size 31 tr (.agg zR) 3 56 Tryd.underlying26 (unhide HRI) (unhide HRZ) hrz1 hrz2 rfl (by decide) _ j (tcells (List.replicate j t7)) rfl (unhide HO4) ⟨wr.heap.size, 0, none⟩ 1 1 t7.cells rfl rfl (news_tri wr t7 _) (tri_one t7) (by decide) (unhide Q63) (unhide Q56) (unhide QB) (wr.heap.size + 1) (alloc_size _ _) ?_; intro g8 cap8 w8 own8 grow8 hat8 hlt8; have HNX := hide (frac_next (unhide HVA) (unhide HBV) own8 grow8); clear own8 grow8 hat8 hlt8 c0 c1 c2)
            exact ⟨⟨j + 1, by go_num, unhide HJL, (unhide HNX).1, (unhide HNX).2⟩, by have := unhide HJL; simp [intOf]; omega⟩
          · have k1 : ¬ (j : Int) < (n : Int) := by omega
            have hjn : j = n := by omega
            rw [hjn] at hva
            have HG2 := hide ((unhide HGS).keep hbv)
            obtain ⟨aw, cw, hvw, -⟩ := (unhide HG2).ow.irow
            rw [ngs_length] at hvw
            subst hvw
            have ⟨x0, x1⟩ := (unhide HG2).gb.cells
            have hgl := (unhide HRV2).1
            have HO5 : Hid ((wr.alloc (.cells #[.int .i64 (i : Int), .slice aw i cw] 58)).ownsRow (b11 + 1) 58 2 vl i (gcells gs)) := by
              have := own_alloc (unhide HG2).ol (.cells #[.int .i64 (i : Int), .slice aw i cw] 58)
              rw [hgl] at this
              exact this
            have Q63 : Hid (i + 1 ≤ maxLen) := by show _ ≤ _; unfold maxLen; omega
            have Q32 : Hid ((i + 1) * 32 ≤ 140737488355328) := by show _ ≤ _; omega
            have QB : Hid (b11 + 1 ≤ (wr.alloc (.cells #[.int .i64 (i : Int), .slice aw i cw] 58)).heap.size) := Nat.le_trans (unhide HG2).gb.lt (alloc_below wr _).size
            have HFN := hide (fin_step (q := q) (rv := rv) (unhide HG2) (unhide HRV2) (unhide HM) (unhide HN1) (unhide HBB1) hva (unhide HIC) (unhide HRQ) (unhide HRV) (fun W hW => (unhide HX5 W hW).1.2))
            clear hva hbv hjl hgl hj hjn
            go_wp2_with (at_builtin; refine wpList_append_lies _ rfl (.tmp 93) (.tmp 95) 22 rfl (b11 + 1) 58 tg (.agg zG) 2 32 Tryd.underlying22 (unhide HGI) (unhide HGZ) hgz1 hgz2 rfl (by decide) _ i (gcells gs) rfl (unhide HO5) ⟨wr.heap.size, 0, none⟩ 1 1 [.int .i64 (i : Int), .slice aw i cw] rfl rfl (news_gate wr ((i : Int), aw, i, cw) _) (gtc_one ((i : Int), aw, i, cw)) (by decide) (unhide Q63) (unhide Q32) (unhide QB) (wr.heap.size + 1) (alloc_size _ _) ?_; intro g1 cap1 w9 own9 grow9 hat9 hlt9; have HCL := hide (unhide HFN g1 cap1 w9 own9 grow9); clear own9 grow9 hat9 hlt9 x0 x1)
            refine (unhide HCL).1.mono ?_
            rintro e w10 ⟨v10, rfl, hv10, hb10⟩
            obtain ⟨t17, rfl, r10⟩ := tri_of hv10
            simp only [Tri.val]
            have b59 := (unhide HCL).2
            have X10 := BoxIs.new r10
            have b10 := below_step hb10 (alloc_below w10 (.cells #[.bool t17.s, .slice t17.a1 t17.n1 t17.c1, .slice t17.a2 t17.n2 t17.c2] 31))
            obtain ⟨W10, hW10⟩ : ∃ W, w10.alloc (.cells #[.bool t17.s, .slice t17.a1 t17.n1 t17.c1, .slice t17.a2 t17.n2 t17.c2] 31) = W := ⟨_, rfl⟩
            obtain ⟨b17, hb17⟩ : ∃ b, w10.heap.size = b := ⟨_, rfl⟩
            rw [hW10] at X10 b10
            rw [hb17] at X10
            have B510 := below_step b59 b10
            have HB10 := hide (below_step (unhide HB0) (below_step (unhide HB5) B510))
            have X8 := (unhide HX5 W10 B510).2
            have ⟨c0, c1, c2⟩ := X10.cells _ (Below.refl _ _)
            have ⟨d0, d1, d2⟩ := X8.cells _ (Below.refl _ _)
            have HLI := hide (like_any t17.val t8.val rv W10 X10.2 X8.2 3000 (rv_RS (unhide HRQ) hn6 hb4'.2 (unhide HRV)) (by rw [KKe]; decide) (unhide HTB W10 (below_step (unhide HB5) B510)))
            simp only [Tri.val] at HLI
            clear hv10 r10 X10 b10 hb10 B510 X8 b59 HCL HFN
            go_wp2_with fail
            clear hW10 hb17
            refine (unhide HLI).mono ?_
            rintro e w11 ⟨rfl, hb11'⟩
            have HB11 := hide (below_step (unhide HB10) hb11')
            clear hb11' HB10 HLI c0 c1 c2 d0 d1 d2
            go_wp2
            go_ret
            exact ⟨rfl, unhide HB11⟩
end Go.Proofs.YtpopcfclpemlaaaDoor
