/- The document's far: a search by calls. -/
import Derived.Test.YtcmddkekidgkoaaDoorTL0
namespace Go.Proofs.YtcmddkekidgkoaaDoor
open Go.RowKit Go.Sort Go.Shelf

theorem cnt_mono {p q : Nat → Bool} (h : ∀ v, p v = true → q v = true) (n : Nat) : Tre.cnt p n ≤ Tre.cnt q n := by
  have := Tre.cnt_imp (p := p) (q := q) (x := n) (fun v hv => Or.inl (h v hv)) n
  rw [if_neg (Nat.lt_irrefl _)] at this
  exact this
def okE (kk : Int) : Nat → Prop := fun e => (e : Int) ≠ kk
theorem World.grownBy.refl (w : World) (r : Option Nat) : w.grownBy w r := ⟨rfl, rfl, rfl, Nat.le_refl _, fun _ _ _ => rfl⟩
theorem World.grownBy.trans {a b c : World} {r : Option Nat} (h : a.grownBy b r) (k : b.grownBy c r) : a.grownBy c r :=
  ⟨k.os.trans h.os, k.tape.trans h.tape, k.output.trans h.output, Nat.le_trans h.size k.size, fun i hi hne => (k.block i (Nat.lt_of_lt_of_le hi h.size) hne).trans (h.block i hi hne)⟩
theorem World.grownBy.below {a b : World} {r : Option Nat} (h : Below a.heap.size a b) : a.grownBy b r := ⟨h.os, h.tape, h.output, h.size, fun i hi _ => h.block i hi⟩
theorem World.grownBy.setC (w : World) (g p : Nat) (v : Value) : w.grownBy (w.setCell ⟨g, p, none⟩ v) (some g) :=
  ⟨rfl, rfl, rfl, by rw [setCell_eq]; simp [mapBlock], fun k _ hne => Below.heap_setCell _ _ _ _ (fun e => hne (by rw [e]))⟩
/-- What the search's boxes hold. -/
def wkV (bo bl bk bw : Nat) : Value := .func (.func 86) #[] #[.pointer (some ⟨bo, 0, none⟩), .pointer (some ⟨bl, 0, none⟩), .pointer (some ⟨bk, 0, none⟩), .pointer (some ⟨bw, 0, none⟩)]
structure DEnv (W : World) (bo bl bk bw G n : Nat) (la : Option Addr) (m lc : Nat) (f : Nat → T3) (kk : Int) : Prop where
  o : Bx W bo (.slice (some ⟨G, 0, none⟩) n n)
  l : Bx W bl (.slice la m lc)
  k : Bx W bk (.int .i64 kk)
  w : Bx W bw (wkV bo bl bk bw)
  tr : TRow W la m lc f
  ap : ∀ x o c, la = some ⟨x, o, c⟩ → 0 < m → x ≠ G
  a1 : bo ≠ G ∧ bl ≠ G ∧ bk ≠ G ∧ bw ≠ G
theorem Bx.grow {w w' : World} {b G : Nat} {v : Value} (h : Bx w b v) (hne : b ≠ G) (hb : w.grownBy w' (some G)) : Bx w' b v :=
  ⟨by rw [World.cell?_of_block (w := w) (a := ⟨b, 0, none⟩) (hb.block b h.2 (fun e => hne (Option.some.inj e)))]; exact h.1, Nat.lt_of_lt_of_le h.2 hb.size⟩
theorem DEnv.grow {W W' : World} {bo bl bk bw G n : Nat} {la : Option Addr} {m lc : Nat} {f : Nat → T3} {kk : Int} (h : DEnv W bo bl bk bw G n la m lc f kk) (hb : W.grownBy W' (some G)) : DEnv W' bo bl bk bw G n la m lc f kk := by
  refine ⟨h.o.grow h.a1.1 hb, h.l.grow h.a1.2.1 hb, h.k.grow h.a1.2.2.1 hb, h.w.grow h.a1.2.2.2 hb, ⟨h.tr.1, h.tr.2.1, fun hm => ?_⟩, h.ap, h.a1⟩
  obtain ⟨b, o, e, hlt, hc⟩ := h.tr.2.2 hm
  have hne := h.ap b o none e hm
  have hblk := hb.block b hlt (fun e => hne (Option.some.inj e))
  refine ⟨b, o, e, Nat.lt_of_lt_of_le hlt hb.size, fun j hj => ?_⟩
  rw [World.cell?_of_block (w := W) (a := ⟨b, o + j * 3, none⟩) hblk, World.cell?_of_block (w := W) (a := ⟨b, o + j * 3 + 1, none⟩) hblk, World.cell?_of_block (w := W) (a := ⟨b, o + j * 3 + 2, none⟩) hblk]
  exact hc j hj
abbrev RunK (m : Nat) (f : Nat → T3) (kk : Int) (p : Nat) (out : Nat → Int) : Prop := Tre.Run m (eA f) (eB f) (eL f) (okE kk) p out
/-- Those found since are done. -/
def Newly (n m : Nat) (f : Nat → T3) (kk : Int) (o0 o1 : Nat → Int) : Prop := ∀ v, v < n → o1 v ≠ -1 → o0 v = -1 → ∀ e x, e < m → okE kk e → Tre.Inc (eA f) (eB f) e v x → o1 x ≠ -1
def Keeps (o0 o1 : Nat → Int) : Prop := ∀ v, o0 v ≠ -1 → o1 v = o0 v
/-- What a call leaves. -/
def DPost (W : World) (G n m : Nat) (f : Nat → T3) (kk : Int) (p i : Nat) (o0 : Nat → Int) (e : Ending) (W' : World) : Prop :=
  e = .returned (.tuple #[]) ∧ ∃ o1, OwnI W' G n o1 ∧ RunK m f kk p o1 ∧ Keeps o0 o1 ∧ Newly n m f kk o0 o1 ∧ (∀ e x, e < m → okE kk e → Tre.Inc (eA f) (eB f) e i x → o1 x ≠ -1) ∧ W.grownBy W' (some G)
def TillK (m k : Nat) (f : Nat → T3) (kk : Int) (i : Nat) (o : Nat → Int) : Prop := ∀ e x, e < k → e < m → okE kk e → Tre.Inc (eA f) (eB f) e i x → o x ≠ -1
theorem Keeps.found {o0 o1 : Nat → Int} (h : Keeps o0 o1) {v : Nat} (hv : o0 v ≠ -1) : o1 v ≠ -1 := by rw [h v hv]; exact hv
theorem Keeps.trans {a b c : Nat → Int} (h : Keeps a b) (k : Keeps b c) : Keeps a c := fun v hv => (k v (h.found hv)).trans (h v hv)
theorem Keeps.cnt {o0 o1 : Nat → Int} (h : Keeps o0 o1) (n : Nat) : Tre.cnt (Tre.fnd o0) n ≤ Tre.cnt (Tre.fnd o1) n := cnt_mono (fun v hv => by
  unfold Tre.fnd at hv ⊢
  exact decide_eq_true (h.found (of_decide_eq_true hv))) n
theorem Newly.trans {n m : Nat} {f : Nat → T3} {kk : Int} {a b c : Nat → Int} (h : Newly n m f kk a b) (k : Newly n m f kk b c) (kc : Keeps b c) : Newly n m f kk a c := fun v hv h1 h0 e x he ho hi => by
  by_cases hb : b v = -1
  · exact k v hv h1 hb e x he ho hi
  · exact kc.found (h v hv hb h0 e x he ho hi)
theorem TillK.keep {m k : Nat} {f : Nat → T3} {kk : Int} {i : Nat} {a b : Nat → Int} (h : TillK m k f kk i a) (kc : Keeps a b) : TillK m k f kk i b := fun e x he hm ho hi => kc.found (h e x he hm ho hi)
/-- A step's state: x is found. -/
theorem keeps_upd {o : Nat → Int} {x : Nat} {V : Int} (hx : o x = -1) : Keeps o (updI o x V) := fun v hv => by
  unfold updI
  by_cases c : v = x
  · rw [c] at hv; exact absurd hx hv
  · rw [if_neg c]
theorem newly_upd {n m : Nat} {f : Nat → T3} {kk : Int} {o o1 : Nat → Int} {x : Nat} {V : Int} (h : Newly n m f kk (updI o x V) o1) (hx : ∀ e y, e < m → okE kk e → Tre.Inc (eA f) (eB f) e x y → o1 y ≠ -1) : Newly n m f kk o o1 := fun v hv h1 h0 e y he ho hi => by
  by_cases c : v = x
  · subst c; exact hx e y he ho hi
  · exact h v hv h1 (by unfold updI; rw [if_neg c]; exact h0) e y he ho hi
theorem run_bd {n m : Nat} {f : Nat → T3} {kk : Int} {p : Nat} {o : Nat → Int} (H : GoodE n m f) (hp : p < n) (h : RunK m f kk p o) (v : Nat) : -1 ≤ o v ∧ o v ≤ 1000000000 * n := by
  have h1 := h.low H.lpos v
  have h2 := h.high (M := 1000000000) (by decide) (fun i hi => H.l i hi) hp H.lA H.lB v
  have h3 := Tre.cnt_le (Tre.fnd o) n
  have h4 : (1000000000 : Int) * (Tre.cnt (Tre.fnd o) n : Int) ≤ 1000000000 * (n : Int) := Int.mul_le_mul_of_nonneg_left (by omega) (by decide)
  omega

/-- The loop's state behind edges so far. -/
structure DS (W0 W : World) (G n m k : Nat) (f : Nat → T3) (kk : Int) (p i : Nat) (o0 o : Nat → Int) : Prop where
  own : OwnI W G n o
  run : RunK m f kk p o
  kp : Keeps o0 o
  nw : Newly n m f kk o0 o
  tl : TillK m k f kk i o
  gr : W0.grownBy W (some G)
theorem DS.keep {W0 W W' : World} {G n m k : Nat} {f : Nat → T3} {kk : Int} {p i : Nat} {o0 o : Nat → Int} (h : DS W0 W G n m k f kk p i o0 o) (hb : Below W.heap.size W W') : DS W0 W' G n m k f kk p i o0 o :=
  ⟨h.own.keep hb, h.run, h.kp, h.nw, h.tl, h.gr.trans (World.grownBy.below hb)⟩
/-- The search goes on to q by edge j, and comes back. -/
theorem DS.call {W0 W W' : World} {G n m k : Nat} {f : Nat → T3} {kk : Int} {p i q : Nat} {o0 o : Nat → Int} {V : Int} {e : Ending} (h : DS W0 W G n m k f kk p i o0 o) (hq : o q = -1) (hr : DPost W G n m f kk p q (updI o q V) e W') (hV : V ≠ -1) :
    ∃ o1, DS W0 W' G n m k f kk p i o0 o1 ∧ o1 q ≠ -1 ∧ Keeps o o1 := by
  obtain ⟨_, o1, g1, g2, g3, g4, g5, g6⟩ := hr
  have hk : Keeps o o1 := (keeps_upd (V := V) hq).trans g3
  have hn := newly_upd g4 g5
  refine ⟨o1, ⟨g1, g2, h.kp.trans hk, h.nw.trans hn hk, h.tl.keep hk, h.gr.trans g6⟩, ?_, hk⟩
  refine g3.found ?_
  unfold updI
  rw [if_pos rfl]; exact hV

theorem DS.next {W0 W : World} {G n m j : Nat} {f : Nat → T3} {kk : Int} {p i xq yq : Nat} {o0 o : Nat → Int} (h : DS W0 W G n m j f kk p i o0 o) (hx : eA f j = xq) (hy : eB f j = yq) (h1 : xq = i → o yq ≠ -1) (h2 : yq = i → o xq ≠ -1) : DS W0 W G n m (j + 1) f kk p i o0 o :=
  ⟨h.own, h.run, h.kp, h.nw, fun e q he hm ho hi => by
    by_cases c : e = j
    · subst c
      rcases hi with ⟨e1, e2⟩ | ⟨e1, e2⟩
      · rw [← e2, hy]; exact h1 (by omega)
      · rw [← e2, hx]; exact h2 (by omega)
    · exact h.tl e q (by omega) hm ho hi, h.gr⟩
theorem DS.can {W0 W : World} {G n m j : Nat} {f : Nat → T3} {kk : Int} {p i q : Nat} {d z : Int} {o0 o : Nat → Int} (h : DS W0 W G n m j f kk p i o0 o) (hj : j < m) (hk : okE kk j) (hinc : Tre.Inc (eA f) (eB f) j i q) (h0 : o0 i = d) (hd : d ≠ -1) (hz : eL f j = z) (hq : o q = -1) : RunK m f kk p (updI o q (d + z)) := by
  have h1 : o i = d := by rw [h.kp i (by rw [h0]; exact hd), h0]
  have := h.run.step hj hk hinc (by rw [h1]; exact hd) hq
  rw [h1, hz] at this
  exact this

set_option maxHeartbeats 32000000 in
set_option maxRecDepth 100000 in
theorem dfs_any (bo bl bk bw G n : Nat) (la : Option Addr) (m lc : Nat) (f : Nat → T3) (kk : Int) (p : Nat) (hn : n ≤ 60) (hm : m ≤ 60) (hp : p < n) (H : GoodE n m f) :
    ∀ (u : Nat) (i : Nat) (d : Int) (o : Nat → Int) (W : World), n < u + 1 + Tre.cnt (Tre.fnd o) n → DEnv W bo bl bk bw G n la m lc f kk → OwnI W G n o → i < n → o i = -1 → RunK m f kk p (updI o i d) → d ≠ -1 →
      Calls Tryd.prog 86 #[.int .i64 (i : Int), .int .i64 d, .pointer (some ⟨bo, 0, none⟩), .pointer (some ⟨bl, 0, none⟩), .pointer (some ⟨bk, 0, none⟩), .pointer (some ⟨bw, 0, none⟩)] W (DPost W G n m f kk p i (updI o i d)) := by
  intro u
  induction u with
  | zero =>
    intro i d o W hu _ _ hi hoi _ _
    have h1 := Tre.cnt_add (p := Tre.fnd o) (q := fun v => Tre.fnd o v || decide (v = i)) (x := i) (by unfold Tre.fnd; rw [hoi]; rfl) (by simp) (fun v hv => by simp [hv]) n
    have h2 := Tre.cnt_le (fun v => Tre.fnd o v || decide (v = i)) n
    rw [if_pos hi] at h1
    omega
  | succ u ih =>
    intro i d o W hu hE hO hi hoi hR hd
    have HIH := hide ih
    have HE := hide hE
    have hbd := run_bd H hp hR i
    rw [show updI o i d i = d by unfold updI; rw [if_pos rfl]] at hbd
    have HCN : Hid (Tre.cnt (Tre.fnd (updI o i d)) n = Tre.cnt (Tre.fnd o) n + 1) := by
      have := Tre.cnt_add (p := Tre.fnd o) (q := Tre.fnd (updI o i d)) (x := i) (by unfold Tre.fnd; rw [hoi]; rfl) (by unfold Tre.fnd updI; rw [if_pos rfl]; exact decide_eq_true hd) (fun v hv => by unfold Tre.fnd updI; rw [if_neg hv]) n
      rw [if_pos hi] at this
      exact this
    have HU := hide hu
    have b0 := hE.o.1
    have l0 := hO.cell hi
    have l1 := hO.free i
    obtain ⟨u0, l0⟩ : ∃ v : Value, W.cell? ⟨G, i, none⟩ = some v := ⟨_, l0⟩
    have O1 := hO.set i d
    have G1 := World.grownBy.setC W G i (.int .i64 d)
    obtain ⟨W1, hW1⟩ : ∃ X, W.setCell ⟨G, i, none⟩ (.int .i64 d) = X := ⟨_, rfl⟩
    rw [hW1] at O1 G1
    have E1 := hE.grow G1
    have b1 := E1.l.1
    have HE1 := hide E1
    obtain ⟨o0, ho0⟩ : ∃ o0, updI o i d = o0 := ⟨_, rfl⟩
    have ho0i : o0 i = d := by rw [← ho0]; unfold updI; rw [if_pos rfl]
    rw [ho0] at O1 hR HCN ⊢
    have HS0 : Hid (DS W W1 G n m 0 f kk p i o0 o0) := ⟨O1, hR, fun _ _ => rfl, fun v _ h1 h0 => absurd h0 h1, fun e x he => absurd he (Nat.not_lt_zero _), G1⟩
    have HOI := hide ho0i
    have q1 := E1.tr.1
    have q2 := E1.tr.2.1
    have e1 : (0 : Int) ≤ (i : Int) := by omega
    have e2 : (i : Int) < (n : Int) := by omega
    clear ih hu hE hO hoi hR E1 O1 G1 ho0 ho0i
    go_enter Tryd.func86, Tryd.ntmps86
    go_wp2_with fail
    clear b0 b1 l0 l1 hW1
    go_loopw [16] (fun vj wr => ∃ (j : Nat) (o1 : Nat → Int), vj = .int .i64 (j : Int) ∧ j ≤ m ∧ DS W wr G n m j f kk p i o0 o1) (fun vj _ => m - (intOf vj).toNat)
    case atStart => exact ⟨0, o0, rfl, Nat.zero_le _, unhide HS0⟩
    case round =>
      obtain ⟨j, o1, rfl, hj, S⟩ := hrel
      clear HS0
      by_cases hlt : j < m
      · have E2 := (unhide HE).grow S.gr
        obtain ⟨lb, lo, rfl, hlb, hlc⟩ := E2.tr.2.2 (by omega)
        have ⟨k0, k1, k2⟩ := hlc j hlt
        obtain ⟨⟨x, y, z⟩, ht⟩ : ∃ t, f j = t := ⟨_, rfl⟩
        rw [ht] at k0 k1 k2
        simp only at k0 k1 k2
        have ba := alloc_below wr (.cells #[.int .i64 x, .int .i64 y, .int .i64 z] 82)
        have ⟨x0, x1, x2⟩ := box3 (w := wr) (x := .int .i64 x) (y := .int .i64 y) (z := .int .i64 z) (T := 82) (Below.refl _ _)
        obtain ⟨W2, hW2⟩ : ∃ X, wr.alloc (.cells #[.int .i64 x, .int .i64 y, .int .i64 z] 82) = X := ⟨_, rfl⟩
        obtain ⟨b2, hb2⟩ : ∃ b, wr.heap.size = b := ⟨_, rfl⟩
        rw [hW2] at ba x0 x1 x2
        rw [hb2] at x0 x1 x2
        have hb2l : b2 < W2.heap.size := World.block_lt_of_cell? W2 _ x0
        have hGb : G ≠ b2 := by have := S.own.lt; omega
        have hX : Bx W2 b2 (.int .i64 x) ∧ W2.cell? ⟨b2, 1, none⟩ = some (.int .i64 y) ∧ W2.cell? ⟨b2, 2, none⟩ = some (.int .i64 z) := ⟨⟨x0, hb2l⟩, x1, x2⟩
        have HX : Hid (∀ X, W2.grownBy X (some G) → X.cell? ⟨b2, 0, none⟩ = some (.int .i64 x) ∧ X.cell? ⟨b2, 1, none⟩ = some (.int .i64 y) ∧ X.cell? ⟨b2, 2, none⟩ = some (.int .i64 z)) := fun X hX => by
          have hblk := hX.block b2 hb2l (fun e => hGb (Option.some.inj e).symm)
          rw [World.cell?_of_block (w := W2) (a := ⟨b2, 0, none⟩) hblk, World.cell?_of_block (w := W2) (a := ⟨b2, 1, none⟩) hblk, World.cell?_of_block (w := W2) (a := ⟨b2, 2, none⟩) hblk]
          exact ⟨x0, x1, x2⟩
        have hga : wr.grownBy W2 (some G) := World.grownBy.below ba
        have E3 := E2.grow hga
        have HE3 := hide E3
        have HS := hide (S.keep ba)
        have HHT := hide ht
        have c0 := E3.k.1
        have c1 := E3.o.1
        have c2 := E3.w.1
        have g1 : (0 : Int) ≤ (j : Int) := by omega
        have g2 : (j : Int) < (m : Int) := by omega
        have g3 : IntKind.i64.wrap ((j : Int) + 1) = ((j + 1 : Nat) : Int) := by rw [IntKind.wrap_i64]; omega
        have ha := H.a j hlt
        have hb := H.b j hlt
        have hl := H.l j hlt
        rw [ht] at ha hb hl
        simp only at ha hb hl
        have g4 : IntKind.i64.wrap (d + z) = d + z := by rw [IntKind.wrap_i64]; omega
        have HZ : Hid (eL f j = z) := by show (f j).2.2 = z; rw [ht]
        clear S E2 E3 ht hlc ba hga hX
        by_cases hkk : (j : Int) = kk
        · have g5 : ((j : Int) == kk) = true := by simpa using hkk
          have HFN : Hid (DS W W2 G n m (j + 1) f kk p i o0 o1) := ⟨(unhide HS).own, (unhide HS).run, (unhide HS).kp, (unhide HS).nw, fun e q he hm2 ho hi2 => by
            by_cases c : e = j
            · subst c; exact absurd hkk ho
            · exact (unhide HS).tl e q (by omega) hm2 ho hi2, (unhide HS).gr⟩
          clear hkk x0 x1 x2 c1 c2
          go_wp2
          exact ⟨⟨j + 1, o1, rfl, hlt, unhide HFN⟩, by simp [intOf]; omega⟩
        have g5 : ((j : Int) == kk) = false := by simpa using hkk
        have HKK : Hid (okE kk j) := hkk
        clear hkk
        obtain ⟨xq, rfl⟩ : ∃ q : Nat, x = (q : Int) := ⟨x.toNat, by omega⟩
        obtain ⟨yq, rfl⟩ : ∃ q : Nat, y = (q : Int) := ⟨y.toNat, by omega⟩
        have hxq : xq < n := by omega
        have hyq : yq < n := by omega
        have HEX : Hid (eA f j = xq) := by show (f j).1.toNat = xq; rw [unhide HHT]; rfl
        have HEY : Hid (eB f j = yq) := by show (f j).2.1.toNat = yq; rw [unhide HHT]; rfl
        have h1 : (0 : Int) ≤ (xq : Int) := by omega
        have h2 : (xq : Int) < (n : Int) := by omega
        have h3 : (0 : Int) ≤ (yq : Int) := by omega
        have h4 : (yq : Int) < (n : Int) := by omega
        clear ha hb HHT
        by_cases hA : xq = i
        · have e3 : ((xq : Int) == (i : Int)) = true := by simp; omega
          obtain ⟨vy, hvy⟩ : ∃ v, o1 yq = v := ⟨_, rfl⟩
          have l0 := (unhide HS).own.cell hyq
          rw [hvy] at l0
          by_cases hq1 : vy = -1
          · subst hq1
            have HC1 := hide (unhide HIH yq (d + z) o1 W2 (by have := (unhide HS).kp.cnt n; have := unhide HCN; have := unhide HU; omega) (unhide HE3) (unhide HS).own hyq hvy ((unhide HS).can hlt (unhide HKK) (Or.inl ⟨by rw [unhide HEX]; exact hA, unhide HEY⟩) (unhide HOI) hd (unhide HZ) hvy) (by omega))
            have HVY := hide hvy
            have HAI := hide hA
            clear hvy hA
            unfold wkV at c2
            go_wp2_with fail
            refine (unhide HC1).mono ?_
            intro e w4 hpost
            obtain ⟨o4, S4, hq4, hk4⟩ := DS.call (unhide HS) (unhide HVY) hpost (show d + z ≠ -1 by omega)
            obtain rfl := hpost.1
            have hgr := hpost.2.choose_spec.2.2.2.2.2
            have HE4 := hide ((unhide HE3).grow hgr)
            have ⟨x0', x1', x2'⟩ := unhide HX w4 hgr
            have c1' := (unhide HE4).o.1
            have c2' := (unhide HE4).w.1
            have HS4 := hide S4
            have HA1 : Hid (xq = i → o4 yq ≠ -1) := fun _ => hq4
            clear S4 hpost hq4 hk4 hgr HC1 x0 x1 x2 c1 c2 l0 e3
            have c2 := c2'
            clear c2'
            by_cases hB : yq = i
            · have e5 : ((yq : Int) == (i : Int)) = true := by simp; omega
              obtain ⟨vx, hvx⟩ : ∃ v, o4 xq = v := ⟨_, rfl⟩
              have m0 := (unhide HS4).own.cell hxq
              rw [hvx] at m0
              by_cases hq2 : vx = -1
              · subst hq2
                have HC2 := hide (unhide HIH xq (d + z) o4 w4 (by have := (unhide HS4).kp.cnt n; have := unhide HCN; have := unhide HU; omega) (unhide HE4) (unhide HS4).own hxq hvx ((unhide HS4).can hlt (unhide HKK) (Or.inr ⟨by rw [unhide HEY]; exact hB, unhide HEX⟩) (unhide HOI) hd (unhide HZ) hvx) (by omega))
                have HVX := hide hvx
                clear hvx hB
                unfold wkV at c2
                go_wp2_with fail
                refine (unhide HC2).mono ?_
                intro e w5 hpost
                obtain ⟨o5, S5, hq5, hk5⟩ := DS.call (unhide HS4) (unhide HVX) hpost (show d + z ≠ -1 by omega)
                obtain rfl := hpost.1
                have HS5 := hide S5
                have HB1 : Hid (yq = i → o5 xq ≠ -1) := fun _ => hq5
                have HA1 : Hid (xq = i → o5 yq ≠ -1) := fun h => hk5.found (unhide HA1 h)
                clear S5 hpost hq5 hk5 HC2
                have HFN : Hid (DS W w5 G n m (j + 1) f kk p i o0 o5) := (unhide HS5).next (unhide HEX) (unhide HEY) (unhide HA1) (unhide HB1)
                go_wp2
                exact ⟨⟨j + 1, o5, rfl, hlt, unhide HFN⟩, by simp [intOf]; omega⟩
              · have HB1 : Hid (yq = i → o4 xq ≠ -1) := fun _ => by rw [hvx]; exact hq2
                have hlow := (run_bd H hp (unhide HS4).run xq).1
                rw [hvx] at hlow
                have e6 : ¬ vx < 0 := by omega
                clear hlow hq2 hvx hB
                have HFN : Hid (DS W w4 G n m (j + 1) f kk p i o0 o4) := (unhide HS4).next (unhide HEX) (unhide HEY) (unhide HA1) (unhide HB1)
                go_wp2
                exact ⟨⟨j + 1, o4, rfl, hlt, unhide HFN⟩, by simp [intOf]; omega⟩
            · have e5 : ((yq : Int) == (i : Int)) = false := by simp; omega
              have HB1 : Hid (yq = i → o4 xq ≠ -1) := fun h => absurd h hB
              clear hB
              have HFN : Hid (DS W w4 G n m (j + 1) f kk p i o0 o4) := (unhide HS4).next (unhide HEX) (unhide HEY) (unhide HA1) (unhide HB1)
              go_wp2
              exact ⟨⟨j + 1, o4, rfl, hlt, unhide HFN⟩, by simp [intOf]; omega⟩
          · have HA1 : Hid (xq = i → o1 yq ≠ -1) := fun _ => by rw [hvy]; exact hq1
            have hlow := (run_bd H hp (unhide HS).run yq).1
            rw [hvy] at hlow
            have e4 : ¬ vy < 0 := by omega
            clear hlow hq1 hvy hA
            by_cases hB : yq = i
            · have e5 : ((yq : Int) == (i : Int)) = true := by simp; omega
              obtain ⟨vx, hvx⟩ : ∃ v, o1 xq = v := ⟨_, rfl⟩
              have m0 := (unhide HS).own.cell hxq
              rw [hvx] at m0
              by_cases hq2 : vx = -1
              · subst hq2
                have HC2 := hide (unhide HIH xq (d + z) o1 W2 (by have := (unhide HS).kp.cnt n; have := unhide HCN; have := unhide HU; omega) (unhide HE3) (unhide HS).own hxq hvx ((unhide HS).can hlt (unhide HKK) (Or.inr ⟨by rw [unhide HEY]; exact hB, unhide HEX⟩) (unhide HOI) hd (unhide HZ) hvx) (by omega))
                have HVX := hide hvx
                clear hvx hB
                unfold wkV at c2
                go_wp2_with fail
                refine (unhide HC2).mono ?_
                intro e w5 hpost
                obtain ⟨o5, S5, hq5, hk5⟩ := DS.call (unhide HS) (unhide HVX) hpost (show d + z ≠ -1 by omega)
                obtain rfl := hpost.1
                have HS5 := hide S5
                have HB1 : Hid (yq = i → o5 xq ≠ -1) := fun _ => hq5
                have HA1 : Hid (xq = i → o5 yq ≠ -1) := fun h => hk5.found (unhide HA1 h)
                clear S5 hpost hq5 hk5 HC2
                have HFN : Hid (DS W w5 G n m (j + 1) f kk p i o0 o5) := (unhide HS5).next (unhide HEX) (unhide HEY) (unhide HA1) (unhide HB1)
                go_wp2
                exact ⟨⟨j + 1, o5, rfl, hlt, unhide HFN⟩, by simp [intOf]; omega⟩
              · have HB1 : Hid (yq = i → o1 xq ≠ -1) := fun _ => by rw [hvx]; exact hq2
                have hlow := (run_bd H hp (unhide HS).run xq).1
                rw [hvx] at hlow
                have e6 : ¬ vx < 0 := by omega
                clear hlow hq2 hvx hB
                have HFN : Hid (DS W W2 G n m (j + 1) f kk p i o0 o1) := (unhide HS).next (unhide HEX) (unhide HEY) (unhide HA1) (unhide HB1)
                go_wp2
                exact ⟨⟨j + 1, o1, rfl, hlt, unhide HFN⟩, by simp [intOf]; omega⟩
            · have e5 : ((yq : Int) == (i : Int)) = false := by simp; omega
              have HB1 : Hid (yq = i → o1 xq ≠ -1) := fun h => absurd h hB
              clear hB
              have HFN : Hid (DS W W2 G n m (j + 1) f kk p i o0 o1) := (unhide HS).next (unhide HEX) (unhide HEY) (unhide HA1) (unhide HB1)
              go_wp2
              exact ⟨⟨j + 1, o1, rfl, hlt, unhide HFN⟩, by simp [intOf]; omega⟩
        · have e3 : ((xq : Int) == (i : Int)) = false := by simp; omega
          have HA1 : Hid (xq = i → o1 yq ≠ -1) := fun h => absurd h hA
          clear hA
          by_cases hB : yq = i
          · have e5 : ((yq : Int) == (i : Int)) = true := by simp; omega
            obtain ⟨vx, hvx⟩ : ∃ v, o1 xq = v := ⟨_, rfl⟩
            have m0 := (unhide HS).own.cell hxq
            rw [hvx] at m0
            by_cases hq2 : vx = -1
            · subst hq2
              have HC2 := hide (unhide HIH xq (d + z) o1 W2 (by have := (unhide HS).kp.cnt n; have := unhide HCN; have := unhide HU; omega) (unhide HE3) (unhide HS).own hxq hvx ((unhide HS).can hlt (unhide HKK) (Or.inr ⟨by rw [unhide HEY]; exact hB, unhide HEX⟩) (unhide HOI) hd (unhide HZ) hvx) (by omega))
              have HVX := hide hvx
              clear hvx hB
              unfold wkV at c2
              go_wp2_with fail
              refine (unhide HC2).mono ?_
              intro e w5 hpost
              obtain ⟨o5, S5, hq5, hk5⟩ := DS.call (unhide HS) (unhide HVX) hpost (show d + z ≠ -1 by omega)
              obtain rfl := hpost.1
              have HS5 := hide S5
              have HB1 : Hid (yq = i → o5 xq ≠ -1) := fun _ => hq5
              have HA1 : Hid (xq = i → o5 yq ≠ -1) := fun h => hk5.found (unhide HA1 h)
              clear S5 hpost hq5 hk5 HC2
              have HFN : Hid (DS W w5 G n m (j + 1) f kk p i o0 o5) := (unhide HS5).next (unhide HEX) (unhide HEY) (unhide HA1) (unhide HB1)
              go_wp2
              exact ⟨⟨j + 1, o5, rfl, hlt, unhide HFN⟩, by simp [intOf]; omega⟩
            · have HB1 : Hid (yq = i → o1 xq ≠ -1) := fun _ => by rw [hvx]; exact hq2
              have hlow := (run_bd H hp (unhide HS).run xq).1
              rw [hvx] at hlow
              have e6 : ¬ vx < 0 := by omega
              clear hlow hq2 hvx hB
              have HFN : Hid (DS W W2 G n m (j + 1) f kk p i o0 o1) := (unhide HS).next (unhide HEX) (unhide HEY) (unhide HA1) (unhide HB1)
              go_wp2
              exact ⟨⟨j + 1, o1, rfl, hlt, unhide HFN⟩, by simp [intOf]; omega⟩
          · have e5 : ((yq : Int) == (i : Int)) = false := by simp; omega
            have HB1 : Hid (yq = i → o1 xq ≠ -1) := fun h => absurd h hB
            clear hB
            have HFN : Hid (DS W W2 G n m (j + 1) f kk p i o0 o1) := (unhide HS).next (unhide HEX) (unhide HEY) (unhide HA1) (unhide HB1)
            go_wp2
            exact ⟨⟨j + 1, o1, rfl, hlt, unhide HFN⟩, by simp [intOf]; omega⟩
      · obtain rfl : j = m := by omega
        have f1 : ¬ (j : Int) < (j : Int) := by omega
        have HFIN : Hid (DPost W G n j f kk p i o0 (.returned (.tuple #[])) wr) := ⟨rfl, o1, S.own, S.run, S.kp, S.nw, fun e x he ho hi => S.tl e x he he ho hi, S.gr⟩
        clear S
        go_wp2
        exact bodyPost_end (v := .tuple #[]) (by simp [results, Tryd.results86, go_sem]) rfl (unhide HFIN)
end Go.Proofs.YtcmddkekidgkoaaDoor
