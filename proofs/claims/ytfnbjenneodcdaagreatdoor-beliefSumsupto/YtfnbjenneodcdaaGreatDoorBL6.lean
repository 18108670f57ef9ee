/- Hidden states: Path. -/
import Derived.Test.YtfnbjenneodcdaaGreatDoorBL4
import Derived.Test.YtfnbjenneodcdaaGreatDoorLB
namespace Go.Proofs.YtfnbjenneodcdaaGreatDoor
open Go.RowKit Go.Sort Go.Shelf

/-- The cells of a row of numbers. -/
def lrow (lf : Nat → Int) (n : Nat) : List Value := (List.range n).map fun j => .int .i64 (lf j)
theorem lrow_length (lf : Nat → Int) (n : Nat) : (lrow lf n).length = n := by simp [lrow]
theorem lrow_get (lf : Nat → Int) {n j : Nat} (h : j < n) : (lrow lf n)[j]? = some (.int .i64 (lf j)) := by simp [lrow, h]
def updI (f : Nat → Int) (j : Nat) (v : Int) : Nat → Int := fun i => if i = j then v else f i
theorem lrow_set (lf : Nat → Int) {n j : Nat} (v : Int) : (lrow lf n).set j (.int .i64 v) = lrow (updI lf j v) n := by
  apply List.ext_getElem?
  intro i
  unfold lrow updI
  rw [List.getElem?_set]
  by_cases h : j = i
  · subst h
    by_cases hj : j < n <;> simp [hj]
  · by_cases hi : i < n <;> simp [h, hi, Ne.symm h]
theorem lrow_congr {f g : Nat → Int} {n : Nat} (h : ∀ j, j < n → f j = g j) : lrow f n = lrow g n := by
  unfold lrow
  exact List.map_congr_left fun j hj => by rw [h j (List.mem_range.1 hj)]
/-- Block G is the row. -/
def OwnI (w : World) (G n : Nat) (lf : Nat → Int) : Prop := w.heap[G]? = some (.cells (lrow lf n).toArray 3)
theorem OwnI.lt {w : World} {G n : Nat} {lf : Nat → Int} (h : OwnI w G n lf) : G < w.heap.size := (Array.getElem?_eq_some_iff.1 h).1
theorem OwnI.keep {w w' : World} {G n : Nat} {lf : Nat → Int} (h : OwnI w G n lf) (hb : Below w.heap.size w w') : OwnI w' G n lf := by
  unfold OwnI; rw [hb.block G h.lt]; exact h
theorem OwnI.cell {w : World} {G n : Nat} {lf : Nat → Int} (h : OwnI w G n lf) {j : Nat} (hj : j < n) : w.cell? ⟨G, j, none⟩ = some (.int .i64 (lf j)) := by
  unfold OwnI at h
  simp only [World.cell?, h]
  have := lrow_get lf hj
  simpa using this
theorem OwnI.free {w : World} {G n : Nat} {lf : Nat → Int} (h : OwnI w G n lf) (j : Nat) : w.frozen? ⟨G, j, none⟩ = false := by
  unfold OwnI at h; simp [World.frozen?, h]
theorem OwnI.set {w : World} {G n : Nat} {lf : Nat → Int} (h : OwnI w G n lf) (j : Nat) (v : Int) : OwnI (w.setCell ⟨G, j, none⟩ (.int .i64 v)) G n (updI lf j v) := by
  unfold OwnI at h ⊢
  rw [setCell_eq]
  simp only [mapBlock, Array.getElem?_modify, h, if_true, Option.map_some, onCells]
  rw [← lrow_set]
  simp
theorem OwnI.congr {w : World} {G n : Nat} {f g : Nat → Int} (h : OwnI w G n f) (e : ∀ j, j < n → f j = g j) : OwnI w G n g := by
  unfold OwnI at h ⊢; rw [← lrow_congr e]; exact h
theorem Tryz.infoI : (Tryz.prog.info? 3).map (fun i => (i.zero, i.size, i.bytes)) = some (some (.int .i64 0), 1, 8) := by kernel_rfl
theorem make_ints (k : Nat) (h1 : k ≤ 1099511627776) (w : World) :
    (Instr.makeSlice 36 (.int .i64 (k : Int)) (.int .i64 (k : Int))).run Tryz.prog w = .ok (.slice (some ⟨w.heap.size, 0, none⟩) k k) (w.alloc (.cells (lrow (fun _ => 0) k).toArray 3)) := by
  obtain ⟨i, hi, hz0, hz1, hz2⟩ := info_parts Tryz.infoI
  have e : madeCells (Value.int .i64 0).cells ((k : Int).toNat * i.size) = (lrow (fun _ => 0) k).toArray := by
    rw [hz1]
    apply Array.ext
    · simp [madeCells, lrow]
    · intro j h1 h2
      simp [madeCells, lrow, Value.cells, Nat.mod_one]
  rw [run_make w 36 3 i (.int .i64 0) Tryz.underlying36 hi hz0 .i64 .i64 k k (by omega) (Int.le_refl _) (by rw [hz2]; omega) (by omega), e]
  simp
theorem make_own (w : World) (k : Nat) : OwnI (w.alloc (.cells (lrow (fun _ => 0) k).toArray 3)) w.heap.size k (fun _ => 0) := heap_alloc_new w _
theorem lrow_noWord {lf : Nat → Int} {n : Nat} {T : TypeId} {fr : Nat × Nat} : NoWord (.cells (lrow lf n).toArray T fr) := by
  intro cs T' fr' e j x
  injection e with e
  subst e
  intro hx
  have hx' : (lrow lf n)[j]? = some (.int .u64 x) := by simpa using hx
  unfold lrow at hx'
  rw [List.getElem?_map] at hx'
  cases h : (List.range n)[j]? with
  | none => rw [h] at hx'; cases hx'
  | some k => rw [h] at hx'; cases hx'
theorem RatIs.ints {w : World} {g n j : Nat} {x : Int} {lf : Nat → Int} {v : Value} {q : Rat} (h : RatIs w v q) (hg : OwnI w g n lf) : RatIs (w.setCell ⟨g, j, none⟩ (.int .i64 x)) v q :=
  h.other hg lrow_noWord (by simp [World.setCell]) (fun k hk => Below.heap_setCell _ _ _ _ hk)
theorem OwnI.nrow {w : World} {G n : Nat} {f : Nat → Int} (h : OwnI w G n f) (hn : n ≤ 9223372036854775807) : NRow w (.slice (some ⟨G, 0, none⟩) n n) n f := ⟨_, _, rfl, Nat.le_refl _, hn, fun _ => ⟨G, 0, rfl, h.lt, fun j hj => by rw [Nat.zero_add]; exact h.cell hj⟩⟩
theorem NRow.congr {w : World} {v : Value} {n : Nat} {f g : Nat → Int} (h : NRow w v n f) (e : ∀ j, j < n → f j = g j) : NRow w v n g := by
  obtain ⟨a, c, e1, h1, h2, h3⟩ := h
  refine ⟨a, c, e1, h1, h2, fun hp => ?_⟩
  obtain ⟨b, o, ea, hlt, hc⟩ := h3 hp
  exact ⟨b, o, ea, hlt, fun j hj => by rw [← e j hj]; exact hc j hj⟩
theorem BoxIs.ints {w : World} {g n j b : Nat} {x : Int} {lf : Nat → Int} {t : Tri} {q : Rat} (h : BoxIs w b t q) (hg : OwnI w g n lf) (hne : b ≠ g) : BoxIs (w.setCell ⟨g, j, none⟩ (.int .i64 x)) b t q :=
  ⟨by rw [Below.heap_setCell _ _ _ _ hne]; exact h.1, h.2.ints hg⟩
theorem egMost (args : Array Value) (w : World) : (callFunc 87 args).run Tryz.prog w = .ok (.enter 87 args) w := by
  go_simp
theorem OwnI.other {w : World} {G n b : Nat} {lf : Nat → Int} {x0 x1 x2 : Value} (h : OwnI w G n lf) (hne : G ≠ b) : OwnI (((w.setCell ⟨b, 0, none⟩ x0).setCell ⟨b, 1, none⟩ x1).setCell ⟨b, 2, none⟩ x2) G n lf := by
  unfold OwnI
  rw [Below.heap_setCell _ _ _ _ hne, Below.heap_setCell _ _ _ _ hne, Below.heap_setCell _ _ _ _ hne]
  exact h
/-- Three operations in any order. -/
def ny3 (i j k : Nat) (s : Bool × Bool × Bool) (m : Nat) : Option (Bool × Bool × Bool) := if m = i ∧ s.1 = false then some (true, s.2.1, s.2.2) else if m = j ∧ s.2.1 = false then some (s.1, true, s.2.2) else if m = k ∧ s.2.2 = false then some (s.1, s.2.1, true) else none
theorem free3_any {P : Program} {ops : Array Oper} {Q : Exit → Act → World → Prop} {C : World → Prop} {md : Region.Mode} (mk : Bool × Bool × Bool → Array Bool) (r i j k : Nat) (I : Bool → Bool → Bool → Act → World → Prop)
    (hne : ∀ s : Bool × Bool × Bool, (s.1 && s.2.1 && s.2.2) = false → (Region.ready md ops (mk s)).isEmpty = false)
    (hck : ∀ s : Bool × Bool × Bool, (s.1 && s.2.1 && s.2.2) = false → (Region.ready md ops (mk s)).all (fun m => match ny3 i j k s m with | some s' => ((mk s).setIfInBounds m true == mk s') && (fu3 r s == fu3 r s' + 1) | none => false) = true)
    (hA : ∀ y z a w, I false y z a w → wpOp P ops Q i (fun a' w' => C w' ∧ I true y z a' w') a w)
    (hB : ∀ x z a w, I x false z a w → wpOp P ops Q j (fun a' w' => C w' ∧ I x true z a' w') a w)
    (hK : ∀ x y a w, I x y false a w → wpOp P ops Q k (fun a' w' => C w' ∧ I x y true a' w') a w)
    (hf : ∀ a w, I true true true a w → wpHold P md ops Q C r (mk (true, true, true)) a w) : ∀ a w, I false false false a w → wpHold P md ops Q C (r + 3) (mk (false, false, false)) a w := by
  intro a w h
  refine walk_any mk (fu3 r) (fun s => s.1 && s.2.1 && s.2.2) (ny3 i j k) (fun s a w => I s.1 s.2.1 s.2.2 a w) hne ?_ ?_ ?_ (r + 3) (false, false, false) rfl a w h
  · intro s hs
    have h1 := hck s hs
    rw [List.all_eq_true] at h1 ⊢
    intro m hm
    have h2 := h1 m hm
    cases e : ny3 i j k s m with
    | none => rw [e] at h2; cases h2
    | some s' => rw [e] at h2; exact h2
  · rintro ⟨x, y, z⟩ m s' hs a w h
    unfold ny3 at hs
    by_cases h1 : m = i ∧ x = false
    · obtain ⟨rfl, rfl⟩ := h1
      rw [if_pos ⟨rfl, rfl⟩] at hs
      injection hs with hs
      subst hs
      exact hA y z a w h
    · rw [if_neg h1] at hs
      by_cases h2 : m = j ∧ y = false
      · obtain ⟨rfl, rfl⟩ := h2
        rw [if_pos ⟨rfl, rfl⟩] at hs
        injection hs with hs
        subst hs
        exact hB x z a w h
      · rw [if_neg h2] at hs
        by_cases h3 : m = k ∧ z = false
        · obtain ⟨rfl, rfl⟩ := h3
          rw [if_pos ⟨rfl, rfl⟩] at hs
          injection hs with hs
          subst hs
          exact hK x y a w h
        · rw [if_neg h3] at hs; cases hs
  · rintro ⟨x, y, z⟩ hs a w h
    cases x with
    | false => cases hs
    | true => cases y with
      | false => cases hs
      | true => cases z with
        | false => cases hs
        | true => exact hf a w h
/-- A row of noughts, a fraction and a box, made in any order. -/
structure PaJ (q : Rat) (T : Nat) (w0 : World) (x y z : Bool) (w : World) (s1 s2 s3 : Value) : Prop where
  bl : Below w0.heap.size w0 w
  row : x = true → ∃ g, s1 = .slice (some ⟨g, 0, none⟩) T T ∧ OwnI w g T (fun _ => 0) ∧ w0.heap.size ≤ g
  rt : y = true → RatIs w s2 q
  al : z = true → ∃ b, s3 = .pointer (some ⟨b, 0, none⟩) ∧ BoxIs w b zTri 0 ∧ w0.heap.size ≤ b
namespace Blf
theorem lk_congr {x y : Nat → Rat} {n : Nat} (hn : 0 < n) (h : ∀ j, j < n → x j = y j) : ∀ k, k ≤ n → lk x k = lk y k
  | 0, _ => rfl
  | k + 1, hk => by
    have ih := lk_congr hn h k (by omega)
    have hl : lk y k < n := by
      by_cases e : 0 < k
      · exact Nat.lt_of_lt_of_le (lk_lt e) (by omega)
      · obtain rfl : k = 0 := by omega
        exact hn
    unfold lk
    rw [ih, h _ hl, h k (by omega)]
theorem mo_congr {n : Nat} (hn : 0 < n) {a b c d : Nat → Rat} (h1 : ∀ i, i < n → a i = c i) (h2 : ∀ i, i < n → b i = d i) : mo n a b = mo n c d := by
  unfold mo
  rw [lk_congr hn (x := fun j => a j * b j) (y := fun j => c j * d j) (fun j hj => by rw [h1 j hj, h2 j hj]) n (Nat.le_refl _)]
  have := lk_lt (x := fun j => c j * d j) hn
  rw [h1 _ this, h2 _ this]
/-- The row that Path tells. -/
def vst (m : Hm) (s : Nat → Nat) (T : Nat) : Nat → Nat
  | 0 => lk (fun j => m.f j * wsg m (bw m s T (mo m.n) (T - 1)) (s 0) j) m.n
  | t + 1 => lk (fun j => m.p (vst m s T t) j * wsg m (bw m s T (mo m.n) (T - 1 - (t + 1))) (s (t + 1)) j) m.n
theorem vst_is (m : Hm) (s : Nat → Nat) (T t : Nat) : vst m s T t = lk (fun j => cmr m (vst m s T) t j * wsg m (bw m s T (mo m.n) (T - 1 - t)) (s t) j) m.n := by
  cases t with
  | zero => rfl
  | succ t => rfl
theorem vst_vit (m : Hm) (s : Nat → Nat) (T : Nat) : Vit m s (vst m s T) T T := fun t _ => vst_is m s T t
theorem vst_lt {m : Hm} (hn : 0 < m.n) (s : Nat → Nat) (T t : Nat) : vst m s T t < m.n := by rw [vst_is]; exact lk_lt hn
end Blf
theorem mo_RS {n : Nat} (hn : 0 < n) {sh th : Nat → Rat} {a b : Nat} (h1 : ∀ i, i < n → RS (sh i) a) (h2 : ∀ i, i < n → RS (th i) b) : RS (Blf.mo n sh th) (a + b) := (h1 _ (Blf.lk_lt hn)).mul (h2 _ (Blf.lk_lt hn))
theorem bwmo_RS {fs : List Rat} {P G : List (List Rat)} {s : Nat → Nat} {T : Nat} (gm : GoodH fs P G) (sm : SmHm fs P G) (hs : ∀ i, i < T → s i < (G[0]!).length) : ∀ (d i : Nat), d < T → i < fs.length → RS (Blf.bw (hm fs P G) s T (Blf.mo fs.length) d i) (1 + 2 * d)
  | 0, i, _, _ => one_RS'
  | d + 1, i, hd, hi => by
    show RS (Blf.mo fs.length ((hm fs P G).p i) (Blf.wsg (hm fs P G) (Blf.bw (hm fs P G) s T (Blf.mo fs.length) d) (s (T - 1 - d)))) _
    have r := mo_RS gm.n1 (sh := (hm fs P G).p i) (th := Blf.wsg (hm fs P G) (Blf.bw (hm fs P G) s T (Blf.mo fs.length) d) (s (T - 1 - d))) (a := 1) (b := 1 + 2 * d + 1) (fun k hk => sm.rp i k (by rw [gm.pl]; exact hi) (by rw [gm.px i hi]; exact hk)) (fun k hk => (bwmo_RS gm sm hs d k (by omega) hk).mul (sm.rg k _ (by rw [gm.gl]; exact hk) (by rw [gm.gx k hk]; exact hs _ (by omega))))
    exact r.mono (by omega)
theorem cmr_RS {fs : List Rat} {P G : List (List Rat)} {r : Nat → Nat} (gm : GoodH fs P G) (sm : SmHm fs P G) (hr : ∀ i, r i < fs.length) (t i : Nat) (hi : i < fs.length) : RS (Blf.cmr (hm fs P G) r t i) 1 := by
  cases t with
  | zero => exact sm.rf i hi
  | succ t => exact sm.rp (r t) i (by rw [gm.pl]; exact hr t) (by rw [gm.px _ (hr t)]; exact hi)
theorem pr_RS {fs : List Rat} {P G : List (List Rat)} {s r : Nat → Nat} {T : Nat} (gm : GoodH fs P G) (sm : SmHm fs P G) (hs : ∀ i, i < T → s i < (G[0]!).length) (hr : ∀ i, r i < fs.length) : ∀ t, t ≤ T → RS (Blf.pr (hm fs P G) s r t) (1 + 2 * t)
  | 0, _ => one_RS'
  | t + 1, ht => by
    have r1 := pr_RS gm sm hs hr t (by omega)
    have r2 := cmr_RS gm sm hr t (r t) (hr t)
    have r3 : RS ((hm fs P G).g (r t) (s t)) 1 := sm.rg (r t) _ (by rw [gm.gl]; exact hr t) (by rw [gm.gx _ (hr t)]; exact hs _ (by omega))
    exact ((r1.mul r2).mul r3).mono (by omega)
def sOf (f : Nat → Int) (i : Nat) : Nat := (f i).toNat
/-- What Path says. -/
def PathPost (w : World) (fs : List Rat) (P G : List (List Rat)) (T : Nat) (f : Nat → Int) (e : Ending) (w' : World) : Prop :=
  (scode fs P G T f = 0 ∧ Blf.pr (hm fs P G) (sOf f) (Blf.vst (hm fs P G) (sOf f) T) T ≠ 0 ∧ ∃ (g : Nat) (t : Tri), e = .returned (.tuple #[.slice (some ⟨g, 0, none⟩) T T, t.val, .nilIface]) ∧ NRow w' (.slice (some ⟨g, 0, none⟩) T T) T (fun i => ((Blf.vst (hm fs P G) (sOf f) T i : Nat) : Int)) ∧ RatIs w' t.val (Blf.pr (hm fs P G) (sOf f) (Blf.vst (hm fs P G) (sOf f) T) T) ∧ Below w.heap.size w w') ∨
  (¬ (scode fs P G T f = 0 ∧ Blf.pr (hm fs P G) (sOf f) (Blf.vst (hm fs P G) (sOf f) T) T ≠ 0) ∧ ∃ k, e = .returned (.tuple #[.slice none 0 0, .agg #[.bool false, .slice none 0 0, .slice none 0 0], .iface 59 (.int .i64 k)]) ∧ Below w.heap.size w w')
/-- What the loop of Path holds. -/
structure PaS (W1 wr : World) (bl gr T n t : Nat) (tl : Tri) (m : Blf.Hm) (s : Nat → Nat) : Prop where
  row : OwnI wr gr T (fun i => if i < t then ((Blf.vst m s T i : Nat) : Int) else 0)
  box : BoxIs wr bl tl (Blf.pr m s (Blf.vst m s T) t)
  gg : W1.heap.size ≤ gr
  gb : W1.heap.size ≤ bl
  below : Below W1.heap.size W1 wr
theorem PaS.ne {W1 wr : World} {bl gr T n t : Nat} {tl : Tri} {m : Blf.Hm} {s : Nat → Nat} (h : PaS W1 wr bl gr T n t tl m s) : gr ≠ bl := fun e => by
  have h1 := h.row
  have h2 := h.box.1
  unfold OwnI at h1
  rw [e, h2] at h1
  injection h1 with h1
  injection h1 with _ h1
  exact absurd h1 (by decide)
theorem PaS.keep {W1 wr w' : World} {bl gr T n t : Nat} {tl : Tri} {m : Blf.Hm} {s : Nat → Nat} (h : PaS W1 wr bl gr T n t tl m s) (hb : Below wr.heap.size wr w') : PaS W1 w' bl gr T n t tl m s := ⟨h.row.keep hb, h.box.keep hb, h.gg, h.gb, below_step h.below hb⟩

set_option maxHeartbeats 16000000 in
set_option maxRecDepth 100000 in
set_option linter.unusedSimpArgs false in
theorem path_any (v : Value) (sn : Sl) (fs : List Rat) (P G : List (List Rat)) (T : Nat) (f : Nat → Int) (w : World) (h : HmIs w v fs P G) (sm : SmHm fs P G) (hs : NRow w (.slice sn.a T sn.c) T f) (hT : T ≤ 1000000) :
    Calls Tryz.prog 53 #[v, .slice sn.a T sn.c] w (PathPost w fs P G T f) := by
  have KKe : KK = 1099511627776 := rfl
  have HSM := hide sm
  have hsn : T ≤ sn.c ∧ sn.c ≤ 9223372036854775807 := by
    obtain ⟨a, c, e, h1, h2, _⟩ := hs
    have e1 : sn.c = c := by injection e
    rw [e1]; exact ⟨h1, h2⟩
  obtain ⟨hsn1, hsn2⟩ := hsn
  obtain ⟨sf, sp, sg, rfl, hF, hP, hG⟩ := h
  have hfn := law_len hF
  have hpn := rows_len hP
  have hgn := rows_len hG
  obtain ⟨n, hn⟩ : ∃ n, fs.length = n := ⟨_, rfl⟩
  have HN := hide hn
  obtain ⟨np, hnp⟩ : ∃ n, P.length = n := ⟨_, rfl⟩
  have HNP := hide hnp
  obtain ⟨ng, hng⟩ : ∃ n, G.length = n := ⟨_, rfl⟩
  have HNG := hide hng
  rw [hn] at hfn
  rw [hnp] at hpn
  rw [hng] at hgn
  clear hnp hng
  have X0 := HBox.new hF hP hG
  have b0 := alloc_below w (.cells #[.slice sf.a sf.n sf.c, .slice sp.a sp.n sp.c, .slice sg.a sg.n sg.c] 53)
  obtain ⟨W0, hW0⟩ : ∃ W, w.alloc (.cells #[.slice sf.a sf.n sf.c, .slice sp.a sp.n sp.c, .slice sg.a sg.n sg.c] 53) = W := ⟨_, rfl⟩
  obtain ⟨bx, hbx⟩ : ∃ b, w.heap.size = b := ⟨_, rfl⟩
  rw [hW0] at X0 b0
  rw [hbx] at X0
  have HX0 := hide X0
  have HB0 := hide b0
  have HCH : Hid (∀ W, Below W0.heap.size W0 W → (fun w' : World => w'.cell? ⟨bx, 0, none⟩ = some (.slice sf.a n sf.c) ∧ w'.cell? ⟨bx, 1, none⟩ = some (.slice sp.a np sp.c) ∧ w'.cell? ⟨bx, 2, none⟩ = some (.slice sg.a ng sg.c)) W) := fun W hW => by
    have h1 := (unhide HX0).cells W hW
    rw [hfn, hpn, hgn] at h1
    exact h1
  have HIS : Hid (∀ W, Below W0.heap.size W0 W → HmIs W (.agg #[.slice sf.a n sf.c, .slice sp.a np sp.c, .slice sg.a ng sg.c]) fs P G) := fun W hW => by
    have h1 := (unhide HX0).hm.below hW
    unfold hmval at h1
    rw [hfn, hpn, hgn] at h1
    exact h1
  have ⟨c0, c1, c2⟩ := unhide HCH _ (Below.refl _ _)
  have HFN := hide hfn
  have HPN := hide hpn
  have HGN := hide hgn
  unfold hmval
  rw [hfn, hpn, hgn] at hW0 ⊢
  clear hF hP hG X0 b0 hn hfn hpn hgn
  have bR := alloc_below W0 (.cells #[.bool false, .slice none 0 0, .slice none 0 0] 26)
  have XR0 := BoxIs.new (w := W0) (t := zTri) (q := 0) (rat_zero _)
  obtain ⟨W1, hW1⟩ : ∃ W, W0.alloc (.cells #[.bool false, .slice none 0 0, .slice none 0 0] 26) = W := ⟨_, rfl⟩
  obtain ⟨R, hR⟩ : ∃ R, W0.heap.size = R := ⟨_, rfl⟩
  have XR1 : BoxIs W1 R zTri 0 := by rw [← hW1, ← hR]; exact XR0
  rw [hW1] at bR
  have HX : Hid (∀ W, Below W1.heap.size W1 W → BoxIs W R zTri 0) := fun W hW => XR1.keep hW
  have HBW : Hid (∀ W, Below W1.heap.size W1 W → Below w.heap.size w W) := fun W hW => below_step (below_step (unhide HB0) bR) hW
  have HG : Hid (w.heap.size ≤ R) := by show _ ≤ R; rw [← hR]; exact (unhide HB0).size
  have HBR := hide bR
  have HS := hide ((hs.below (unhide HB0)).below bR)
  have HCS := hide (checkSigns_any _ sn fs P G T f W1 (unhide HIS _ bR) (unhide HSM) (unhide HS) hT)
  have ⟨d0, d1, d2⟩ := unhide HCH _ bR
  clear hs sm XR0 XR1 bR
  go_enter Tryz.func53, Tryz.ntmps53
  go_wp2_with fail
  clear hW0 hbx c0 c1 c2 d0 d1 d2 hW1 hR
  refine (unhide HCS).mono ?_
  rintro e w1 ⟨rfl, hb1⟩
  have HB1 := hide hb1
  obtain ⟨z, hz⟩ : ∃ z, scode fs P G T f = z := ⟨_, rfl⟩
  rw [hz]
  have HZ := hide hz
  clear hz hb1 HCS
  by_cases hz0 : z = 0
  rotate_left
  · have e5 : errV z = .iface 59 (.int .i64 z) := by unfold errV; rw [if_neg hz0]
    rw [e5]
    have HNZ := hide hz0
    clear hz0 e5
    have XR := unhide HX _ (unhide HB1)
    have ⟨l0, l1, l2⟩ := XR.free
    have ⟨y0, y1, y2⟩ := XR.cells _ (Below.refl _ _)
    have FIN := XR.set (t' := zTri) (q' := 0) (rat_zero _)
    have FB := (((unhide HBW _ (unhide HB1)).setCell (p := ⟨R, 0, none⟩) (unhide HG) (.bool false)).setCell (p := ⟨R, 1, none⟩) (unhide HG) (.slice none 0 0)).setCell (p := ⟨R, 2, none⟩) (unhide HG) (.slice none 0 0)
    obtain ⟨Wf, hWf⟩ : ∃ W, ((w1.setCell ⟨R, 0, none⟩ (.bool false)).setCell ⟨R, 1, none⟩ (.slice none 0 0)).setCell ⟨R, 2, none⟩ (.slice none 0 0) = W := ⟨_, rfl⟩
    have FIN' : BoxIs Wf R zTri 0 := by rw [← hWf]; exact FIN
    have HFB : Hid (Below w.heap.size w Wf) := by show Below w.heap.size w Wf; rw [← hWf]; exact FB
    have ⟨x0, x1, x2⟩ := FIN'.cells _ (Below.refl _ _)
    clear XR FIN FB FIN'
    go_wp2
    (try simp only [Exit.inBlock, Exit.then])
    exact bodyPost_ret (v := .tuple #[.slice none 0 0, .agg #[.bool false, .slice none 0 0, .slice none 0 0], .iface 59 (.int .i64 z)]) (by simp [results, Tryz.results53, go_sem, x0, x1, x2, zTri]) rfl (Or.inr ⟨fun h => unhide HNZ ((unhide HZ).symm.trans h.1), z, rfl, unhide HFB⟩)
  subst hz0
  have e5 : errV 0 = .nilIface := rfl
  rw [e5]
  clear e5
  obtain ⟨hc0, hT12, hsg⟩ := scode_good (unhide HZ)
  have gm := goodH_of hc0
  obtain rfl : n = np := by rw [← unhide HNP, gm.pl]; exact (unhide HN).symm
  obtain rfl : n = ng := by rw [← unhide HNG, gm.gl]; exact (unhide HN).symm
  have hn1 := gm.n1
  have hn8 := gm.n8
  rw [unhide HN] at hn1 hn8
  have HGM := hide gm
  have HSG : Hid (∀ i, i < T → sOf f i < (G[0]!).length) := fun i hi => by
    have := hsg i hi
    unfold sOf; omega
  have HSS : Hid (NRow W1 (.slice sn.a T sn.c) T (fun i => ((sOf f i : Nat) : Int))) := (unhide HS).congr (fun i hi => by
    have := hsg i hi
    unfold sOf; omega)
  have HT12 := hide hT12
  obtain ⟨m, hm_⟩ : ∃ m, hm fs P G = m := ⟨_, rfl⟩
  have HM := hide hm_
  have HMn : Hid (m.n = n) := by show m.n = n; rw [← hm_]; exact unhide HN
  have HC4 : Hid (∀ W, Below w1.heap.size w1 W → (fun w' : World => (w'.cell? ⟨bx, 0, none⟩ = some (.slice sf.a n sf.c) ∧ w'.cell? ⟨bx, 1, none⟩ = some (.slice sp.a n sp.c) ∧ w'.cell? ⟨bx, 2, none⟩ = some (.slice sg.a n sg.c))) W) := fun W hW => unhide HCH _ (below_step (unhide HBR) (below_step (unhide HB1) hW))
  clear gm hc0 hsg hm_
  go_wp2_with fail
  refine wp_region_hold (fun w' : World => (w'.cell? ⟨bx, 0, none⟩ = some (.slice sf.a n sf.c) ∧ w'.cell? ⟨bx, 1, none⟩ = some (.slice sp.a n sp.c) ∧ w'.cell? ⟨bx, 2, none⟩ = some (.slice sg.a n sg.c))) (by kernel_rfl) ?_
  have bd0 : Below w1.heap.size w1 w1.drew := (Below.refl _ _).drew
  obtain ⟨Wx, hWx⟩ : ∃ W, w1.drew = W := ⟨_, rfl⟩
  rw [hWx] at bd0 ⊢
  have hC0 : (fun w' : World => (w'.cell? ⟨bx, 0, none⟩ = some (.slice sf.a n sf.c) ∧ w'.cell? ⟨bx, 1, none⟩ = some (.slice sp.a n sp.c) ∧ w'.cell? ⟨bx, 2, none⟩ = some (.slice sg.a n sg.c))) Wx := unhide HC4 _ bd0
  refine wpHold_take (i := 0) (v := ?_) rfl (by kernel_rfl) (by kernel_rfl) (by kernel_rfl) (fun _ _ _ h => h) (Or.inl ⟨by rfl, ?_⟩) hC0 ?_
  rotate_left
  · intro w hSw; clear hSw; go_simp; (try with_reducible rfl)
  (try simp only [List.getElem_toArray, List.getElem_cons_succ, List.getElem_cons_zero])
  (try simp only [Act.put, List.setIfInBounds_toArray, List.set_cons_zero, List.set_cons_succ])
  refine wpHold_take (i := 1) (v := ?_) rfl (by kernel_rfl) (by kernel_rfl) (by kernel_rfl) (fun _ _ _ h => h) (Or.inl ⟨by rfl, ?_⟩) hC0 ?_
  rotate_left
  · intro w hSw; clear hSw; go_simp; (try with_reducible rfl)
  (try simp only [List.getElem_toArray, List.getElem_cons_succ, List.getElem_cons_zero])
  (try simp only [Act.put, List.setIfInBounds_toArray, List.set_cons_zero, List.set_cons_succ])
  refine wpHold_take (i := 4) (v := ?_) rfl (by kernel_rfl) (by kernel_rfl) (by kernel_rfl) (fun _ _ _ h => h) (Or.inl ⟨by rfl, ?_⟩) hC0 ?_
  rotate_left
  · intro w hSw; clear hSw; go_simp; (try with_reducible rfl)
  (try simp only [List.getElem_toArray, List.getElem_cons_succ, List.getElem_cons_zero])
  (try simp only [Act.put, List.setIfInBounds_toArray, List.set_cons_zero, List.set_cons_succ])
  refine wpHold_take (i := 5) (v := ?_) rfl (by kernel_rfl) (by kernel_rfl) (by kernel_rfl) (fun _ _ _ h => h) (Or.inl ⟨by rfl, ?_⟩) hC0 ?_
  rotate_left
  · intro w hSw; (try dsimp only at hSw); obtain ⟨u0, u1, u2⟩ := hSw; go_simp; (try with_reducible rfl)
  (try simp only [List.getElem_toArray, List.getElem_cons_succ, List.getElem_cons_zero])
  (try simp only [Act.put, List.setIfInBounds_toArray, List.set_cons_zero, List.set_cons_succ])
  refine wpHold_listed (n := 6) (L' := (fun x : Bool × Bool × Bool => #[true, true, x.1, x.2.1, true, true, x.2.2, false, false, false]) (false, false, false)) (by kernel_rfl) (by kernel_rfl) ?_
  refine wpHold_name (fun a0 ha0 => ?_)
  refine free3_any (fun x : Bool × Bool × Bool => #[true, true, x.1, x.2.1, true, true, x.2.2, false, false, false]) 3 2 3 6 (fun x y z na W => ∃ s1 s2 s3, na = ((a0.put (some 23) s1).put (some 24) s2).put (some 9) s3 ∧ PaJ ((1 : Int) : Rat) T Wx x y z W s1 s2 s3) ?_ ?_ ?_ ?_ ?_ ?_ _ _ ⟨undef, undef, undef, by subst ha0; rfl, Below.refl _ _, fun h => (by cases h), fun h => (by cases h), fun h => (by cases h)⟩
  · clear ha0
    rintro ⟨x, y, z⟩ hs
    match x, y, z, hs with
    | false, false, false, _ => (show (_ : Bool) = _; kernel_rfl)
    | false, false, true, _ => (show (_ : Bool) = _; kernel_rfl)
    | false, true, false, _ => (show (_ : Bool) = _; kernel_rfl)
    | false, true, true, _ => (show (_ : Bool) = _; kernel_rfl)
    | true, false, false, _ => (show (_ : Bool) = _; kernel_rfl)
    | true, false, true, _ => (show (_ : Bool) = _; kernel_rfl)
    | true, true, false, _ => (show (_ : Bool) = _; kernel_rfl)
  · clear ha0
    rintro ⟨x, y, z⟩ hs
    match x, y, z, hs with
    | false, false, false, _ => (show (_ : Bool) = _; kernel_rfl)
    | false, false, true, _ => (show (_ : Bool) = _; kernel_rfl)
    | false, true, false, _ => (show (_ : Bool) = _; kernel_rfl)
    | false, true, true, _ => (show (_ : Bool) = _; kernel_rfl)
    | true, false, false, _ => (show (_ : Bool) = _; kernel_rfl)
    | true, false, true, _ => (show (_ : Bool) = _; kernel_rfl)
    | true, true, false, _ => (show (_ : Bool) = _; kernel_rfl)
  · rintro y z na wv ⟨s1, s2, s3, rfl, J⟩
    subst ha0
    have hb := alloc_below wv (.cells (lrow (fun _ => 0) T).toArray 3)
    have qmk := make_ints T (by omega) wv
    refine wpOp_step rfl (fun K hK => ?_)
    (try simp only [Act.put, List.setIfInBounds_toArray, List.set_cons_zero, List.set_cons_succ] at hK ⊢)
    (try simp only [List.getElem_toArray, List.getElem_cons_succ, List.getElem_cons_zero])
    go_simp
    exact hK _ _ ⟨unhide HC4 _ (below_step bd0 (below_step J.bl hb)), _, s2, s3, rfl, below_step J.bl hb, fun _ => ⟨_, rfl, make_own wv T, J.bl.size⟩, fun h => (J.rt h).below hb, fun h => by
      obtain ⟨b, e1, e2, e3⟩ := J.al h
      exact ⟨b, e1, e2.keep hb, e3⟩⟩
  · rintro x z na wv ⟨s1, s2, s3, rfl, J⟩
    subst ha0
    refine wpOp_step rfl (fun K hK => ?_)
    (try simp only [Act.put, List.setIfInBounds_toArray, List.set_cons_zero, List.set_cons_succ] at hK ⊢)
    (try simp only [List.getElem_toArray, List.getElem_cons_succ, List.getElem_cons_zero])
    go_simp
    refine (whole_any 1 (by decide) (by decide) wv).mono ?_
    rintro e wz ⟨v, rfl, hv, hb⟩
    exact hK _ _ ⟨unhide HC4 _ (below_step bd0 (below_step J.bl hb)), s1, v, s3, rfl, below_step J.bl hb, fun h => by
      obtain ⟨g, e1, e2, e3⟩ := J.row h
      exact ⟨g, e1, e2.keep hb, e3⟩, fun _ => hv, fun h => by
      obtain ⟨b, e1, e2, e3⟩ := J.al h
      exact ⟨b, e1, e2.keep hb, e3⟩⟩
  · rintro x y na wv ⟨s1, s2, s3, rfl, J⟩
    subst ha0
    refine wpOp_step rfl (fun K hK => ?_)
    (try simp only [Act.put, List.setIfInBounds_toArray, List.set_cons_zero, List.set_cons_succ] at hK ⊢)
    (try simp only [List.getElem_toArray, List.getElem_cons_succ, List.getElem_cons_zero])
    go_simp
    have hb := alloc_below wv (.cells #[.bool false, .slice none 0 0, .slice none 0 0] 26)
    exact hK _ _ ⟨unhide HC4 _ (below_step bd0 (below_step J.bl hb)), s1, s2, .pointer (some ⟨wv.heap.size, 0, none⟩), rfl, below_step J.bl hb, fun h => by
      obtain ⟨g, e1, e2, e3⟩ := J.row h
      exact ⟨g, e1, e2.keep hb, e3⟩, fun h => (J.rt h).below hb, fun _ => ⟨wv.heap.size, rfl, BoxIs.new (t := zTri) (rat_zero _), J.bl.size⟩⟩
  rintro na wv ⟨s1, s2, s3, rfl, J⟩
  subst ha0
  obtain ⟨gr, rfl, hrow, hgr⟩ := J.row rfl
  obtain ⟨bl, rfl, hbox, hbl⟩ := J.al rfl
  obtain ⟨tl0, rfl, hrt⟩ := tri_of (J.rt rfl)
  simp only [Tri.val]
  have hne : gr ≠ bl := fun e => by
    have h1 : OwnI wv gr T (fun _ => 0) := hrow
    have h2 := hbox.1
    unfold OwnI at h1
    rw [e, h2] at h1
    injection h1 with h1
    injection h1 with _ h1
    exact absurd h1 (by decide)
  have ⟨l0, l1, l2⟩ := hbox.free
  have ⟨k0, k1, k2⟩ := hbox.cells _ (Below.refl _ _)
  have NB := hbox.set hrt
  have hle : w1.heap.size ≤ bl := Nat.le_trans bd0.size hbl
  have bl1 := below_step bd0 J.bl
  have hCm : (fun w' : World => (w'.cell? ⟨bx, 0, none⟩ = some (.slice sf.a n sf.c) ∧ w'.cell? ⟨bx, 1, none⟩ = some (.slice sp.a n sp.c) ∧ w'.cell? ⟨bx, 2, none⟩ = some (.slice sg.a n sg.c))) wv := unhide HC4 _ bl1
  have YB := ((bl1.setCell (p := ⟨bl, 0, none⟩) hle (.bool tl0.s)).setCell (p := ⟨bl, 1, none⟩) hle (.slice tl0.a1 tl0.n1 tl0.c1)).setCell (p := ⟨bl, 2, none⟩) hle (.slice tl0.a2 tl0.n2 tl0.c2)
  have hCn : (fun w' : World => (w'.cell? ⟨bx, 0, none⟩ = some (.slice sf.a n sf.c) ∧ w'.cell? ⟨bx, 1, none⟩ = some (.slice sp.a n sp.c) ∧ w'.cell? ⟨bx, 2, none⟩ = some (.slice sg.a n sg.c))) _ := unhide HC4 _ YB
  have OR := hrow.other (x0 := .bool tl0.s) (x1 := .slice tl0.a1 tl0.n1 tl0.c1) (x2 := .slice tl0.a2 tl0.n2 tl0.c2) hne
  obtain ⟨W3, hW3⟩ : ∃ W, ((wv.setCell ⟨bl, 0, none⟩ (.bool tl0.s)).setCell ⟨bl, 1, none⟩ (.slice tl0.a1 tl0.n1 tl0.c1)).setCell ⟨bl, 2, none⟩ (.slice tl0.a2 tl0.n2 tl0.c2) = W := ⟨_, rfl⟩
  rw [hW3] at NB YB hCn OR
  have HNB := hide NB
  have HYB := hide YB
  have HOR := hide OR
  have HGR : Hid (W1.heap.size ≤ gr) := Nat.le_trans (unhide HB1).size (Nat.le_trans bd0.size hgr)
  have HGL : Hid (W1.heap.size ≤ bl) := Nat.le_trans (unhide HB1).size hle
  clear J hrow hbox hrt NB YB OR hgr hbl hle bl1 hC0 hne
  refine wpHold_one (k := 7) (by kernel_rfl) rfl (fun K hK => ?_)
  (try simp only [List.getElem_toArray, List.getElem_cons_succ, List.getElem_cons_zero])
  go_simp
  refine hK.out _ _ hCm ?_
  clear hK K
  (try simp only [Act.put, List.setIfInBounds_toArray, List.set_cons_zero, List.set_cons_succ])
  refine wpHold_one (k := 8) (by kernel_rfl) rfl (fun K hK => ?_)
  (try simp only [List.getElem_toArray, List.getElem_cons_succ, List.getElem_cons_zero])
  go_simp
  refine hK.out _ _ hCn ?_
  clear hK K
  (try simp only [Act.put, List.setIfInBounds_toArray, List.set_cons_zero, List.set_cons_succ])
  refine wpHold_one (k := 9) (by kernel_rfl) rfl (fun K hK => ?_)
  (try simp only [List.getElem_toArray, List.getElem_cons_succ, List.getElem_cons_zero])
  go_simp
  refine hK.out _ _ hCn ?_
  clear hK K
  (try simp only [Act.put, List.setIfInBounds_toArray, List.set_cons_zero, List.set_cons_succ])
  refine wpHold_done (by kernel_rfl) ?_ _
  clear hCm hCn l0 l1 l2 k0 k1 k2 hW3 bd0 hWx HC4
  have hF1 := (unhide HX0).2.1.below (below_step (unhide HBR) (below_step (unhide HB1) (unhide HYB)))
  have HW3 := hide (below_step (unhide HB1) (unhide HYB))
  have HFE : Hid (Calls Tryz.prog 50 #[.agg #[.slice sf.a n sf.c, .slice sp.a n sp.c, .slice sg.a n sg.c], .slice sn.a T sn.c, .func (.func 87) #[] #[]] W3 (EndPost W3 T n (Blf.bw m (sOf f) T (Blf.mo n)))) := by
    have := fromEnd_any (.agg #[.slice sf.a n sf.c, .slice sp.a n sp.c, .slice sg.a n sg.c]) sn fs P G (sOf f) T 87 60 (Blf.mo fs.length) W3 (unhide HIS _ (below_step (unhide HBR) (unhide HW3))) (unhide HGM) (unhide HSM) ((unhide HSS).below (unhide HW3)) (by have := unhide HT12; omega) (unhide HSG) egMost (fun l1 l2 qs xs W h1 h2 e1 e2 r1 r2 => most_any l1 l2 qs xs fs.length 60 W h1 h2 e1 e2 (unhide HGM).n1 (by have := (unhide HGM).n8; omega) r1 r2 (by rw [KKe]; omega)) (fun a b c d h1 h2 => Blf.mo_congr (unhide HGM).n1 h1 h2) (by rw [KKe]; omega) (by omega) (fun d i hd hi => (bwmo_RS (unhide HGM) (unhide HSM) (unhide HSG) d i hd hi).mono (by have := unhide HT12; omega))
    rw [unhide HN, unhide HM] at this
    exact this
  have ⟨d0, d1, d2⟩ := unhide HCH _ (below_step (unhide HBR) (unhide HW3))
  clear hF1
  go_wp2_with fail
  clear d0 d1 d2
  refine (unhide HFE).mono ?_
  rintro e w5 ⟨ge, rfl, hrs, hb5⟩
  have HRS := hide hrs
  have HVM : Hid (Blf.vst m (sOf f) T = Blf.vst m (sOf f) T) := rfl
  have HP0 : Hid (PaS W1 w5 bl gr T n 0 tl0 m (sOf f)) := by
    refine ⟨((unhide HOR).keep hb5).congr (fun j _ => by rw [if_neg (Nat.not_lt_zero _)]), ((unhide HNB).keep hb5), unhide HGR, unhide HGL, below_step (unhide HW3) hb5⟩
  have HVL : Hid (∀ t, Blf.vst m (sOf f) T t < n) := fun t => by
    have := Blf.vst_lt (m := m) (by rw [unhide HMn]; omega) (sOf f) T t
    rw [unhide HMn] at this; exact this
  have HNE : Hid (gr ≠ bl) := (unhide HP0).ne
  have HGR3 : Hid (gr < W3.heap.size) := (unhide HOR).lt
  have HBL3 : Hid (bl < W3.heap.size) := (unhide HNB).lt
  clear hrs hb5 HFE HNB HOR HYB HVM
  go_wp2_with fail
  go_loopw [10, 31] (fun vc vt wr => ∃ (t : Nat) (tl : Tri) (lc : Sl) (qs : List Rat), vc = .slice lc.a n lc.c ∧ vt = .int .i64 (t : Int) ∧ t ≤ T ∧ PaS W1 wr bl gr T n t tl m (sOf f) ∧ LawIs W0 lc.val qs ∧ qs.length = n ∧ (∀ i, i < n → qs[i]! = Blf.cmr m (Blf.vst m (sOf f) T) t i) ∧ RowsFr W3.heap.size wr (.slice (some ⟨ge, 0, none⟩) T T) (mrows T n (fun i => Blf.bw m (sOf f) T (Blf.mo n) (T - 1 - i)))) (fun _ vt _ => T - (intOf vt).toNat)
  case atStart =>
    refine ⟨0, tl0, sf, fs, rfl, rfl, Nat.zero_le _, unhide HP0, (unhide HX0).2.1, unhide HN, fun i _ => ?_, unhide HRS⟩
    rw [← unhide HM]; rfl
  case round =>
    obtain ⟨t, tl, lc, qs, rfl, rfl, ht, S, hlc, hql, hqe, hrs⟩ := hrel
    clear HP0 HRS
    have hrl := unhide HVL
    have HS5 := hide S
    have HRF := hide hrs
    by_cases hlt : t < T
    · have f1 : (t : Int) < (T : Int) := by omega
      have f0 : (0 : Int) ≤ (t : Int) := by omega
      have hrs2 : RowsAre wr (Sl.val (some ⟨ge, 0, none⟩, T, T)) (mrows T n (fun i => Blf.bw m (sOf f) T (Blf.mo n) (T - 1 - i))) := hrs.rows
      have hml : t < (mrows T n (fun i => Blf.bw m (sOf f) T (Blf.mo n) (T - 1 - i))).length := by rw [mrows_length]; exact hlt
      obtain ⟨bq, oq, mq, hqa, hbq, k0, hA⟩ := hrs2.at hml
      rw [mrows_get hlt] at hA
      obtain ⟨rfl, rfl⟩ : bq = ge ∧ oq = 0 := by
        have e : some (⟨ge, 0, none⟩ : Addr) = some ⟨bq, oq, none⟩ := hqa
        injection e with e
        injection e with e1 e2
        exact ⟨e1.symm, e2.symm⟩
      rw [Nat.zero_add] at k0
      have hmq := law_len hA
      rw [row_length] at hmq
      rw [hmq] at k0
      obtain ⟨sa_, cs, es, _, _, h3s⟩ := (unhide HSS).below S.below
      obtain ⟨bs, os, eas, hbs, hcs⟩ := h3s (by omega)
      have esa : sn.a = some ⟨bs, os, none⟩ := by injection es with e1; rw [e1, eas]
      have hcs' := hcs t hlt
      have hW0r := below_step (unhide HBR) S.below
      obtain ⟨bc, oc, hla, hbc, hcc⟩ := hlc.open hql hn1
      obtain ⟨B, hB⟩ : ∃ B, Blf.bw m (sOf f) T (Blf.mo n) (T - 1 - t) = B := ⟨_, rfl⟩
      rw [hB] at hA
      obtain ⟨fw, hfw⟩ : ∃ g, Blf.wsg m B (sOf f t) = g := ⟨_, rfl⟩
      have hBr : ∀ i, i < n → RS (B i) 40 := fun i hi => by
        have := bwmo_RS (unhide HGM) (unhide HSM) (unhide HSG) (T - 1 - t) i (by omega) (by rw [unhide HN]; exact hi)
        rw [unhide HN, unhide HM, hB] at this
        exact this.mono (by omega)
      have hfr : ∀ i, i < n → RS (fw i) 60 := fun i hi => by
        rw [← hfw]
        have r3 : RS (m.g i (sOf f t)) 1 := by
          rw [← unhide HM]
          exact (unhide HSM).rg i _ (by rw [(unhide HGM).gl, unhide HN]; exact hi) (by rw [(unhide HGM).gx i (by rw [unhide HN]; exact hi)]; exact unhide HSG _ hlt)
        exact ((hBr i hi).mul r3).mono (by omega)
      have hqr : ∀ i, i < n → RS qs[i]! 60 := fun i hi => by
        rw [hqe i hi, ← unhide HM]
        exact (cmr_RS (unhide HGM) (unhide HSM) (fun i => by rw [unhide HN, unhide HM]; exact unhide HVL i) t i (by rw [unhide HN]; exact hi)).mono (by omega)
      obtain ⟨st, hst⟩ : ∃ x, Blf.vst m (sOf f) T t = x := ⟨_, rfl⟩
      have hstl : st < n := by rw [← hst]; exact unhide HVL t
      have hlk : Blf.lk (fun j => qs[j]! * (row fw n)[j]!) n = st := by
        rw [← hst, Blf.vst_is, unhide HMn]
        refine Blf.lk_congr hn1 (fun j hj => ?_) n (Nat.le_refl _)
        show qs[j]! * (row fw n)[j]! = _
        rw [hqe j hj, row_get hj, ← hfw, ← hB]
      have HWS : Hid (∀ W, Below wr.heap.size wr W → Calls Tryz.prog 84 #[.agg #[.slice sf.a n sf.c, .slice sp.a n sp.c, .slice sg.a n sg.c], .slice mq.a n mq.c, .int .i64 ((sOf f t : Nat) : Int)] W (RowPost W (row fw n))) := fun W hW => by
        have := withSign_any (.agg #[.slice sf.a n sf.c, .slice sp.a n sp.c, .slice sg.a n sg.c]) mq fs P G (row B n) (sOf f t) 60 W (unhide HIS _ (below_step hW0r hW)) (unhide HGM) (unhide HSM) (hA.below hW) (by rw [row_length]; exact (unhide HN).symm) (unhide HSG _ hlt) (fun i hi => by
          rw [unhide HN] at hi
          rw [row_get hi]; exact (hBr i hi).mono (by omega)) (by omega) (by rw [KKe]; omega)
        rw [unhide HN, unhide HM] at this
        rw [show row fw n = row (Blf.wsg m (fun i => (row B n)[i]!) (sOf f t)) n from row_congr (fun i hi => by
          show _ = (row B n)[i]! * _
          rw [row_get hi, ← hfw]; rfl)]
        exact this
      have HLK : Hid (∀ (W : World) (g : Nat), Below wr.heap.size wr W → LawIs W (.slice (some ⟨g, 0, none⟩) n n) (row fw n) → Calls Tryz.prog 88 #[.slice (some ⟨bc, oc, none⟩) n lc.c, .slice (some ⟨g, 0, none⟩) n n] W fun e w' => e = .returned (.int .i64 (st : Int)) ∧ Below W.heap.size W w') := fun W g hW hl => by
        have := likeliest_any lc (some ⟨g, 0, none⟩, n, n) qs (row fw n) n 60 W (hlc.below (below_step hW0r hW)) hl hql (row_length _ _) hn1 (by omega) hqr (fun i hi => by rw [row_get hi]; exact hfr i hi) (by rw [KKe]; omega)
        rw [hlk, hla] at this
        exact this
      have HC8 : Hid (∀ W, Below wr.heap.size wr W → (fun w' : World => (w'.cell? ⟨bx, 0, none⟩ = some (.slice sf.a n sf.c) ∧ w'.cell? ⟨bx, 1, none⟩ = some (.slice sp.a n sp.c) ∧ w'.cell? ⟨bx, 2, none⟩ = some (.slice sg.a n sg.c)) ∧ w'.cell? ⟨bs, os + t, none⟩ = some (.int .i64 ((sOf f t : Nat) : Int))) W) := fun W hW => ⟨unhide HCH _ (below_step hW0r hW), by rw [hW.cell (p := ⟨bs, os + t, none⟩) hbs]; exact hcs'⟩
      have hltG : st < G.length := by rw [(unhide HGM).gl, unhide HN]; exact hstl
      have hltP : st < P.length := by rw [(unhide HGM).pl, unhide HN]; exact hstl
      obtain ⟨bg, og, mg, hga, hbg, g0, hD⟩ := ((unhide HX0).2.2.2).at hltG
      obtain ⟨bp, op, mp, hpa, hbp, p0, hPl⟩ := ((unhide HX0).2.2.1).at hltP
      obtain ⟨kk, hkk⟩ : ∃ x, (G[0]!).length = x := ⟨_, rfl⟩
      have hlg : (G[st]!).length = kk := by rw [(unhide HGM).gx st (by rw [unhide HN]; exact hstl)]; exact hkk
      have hlp : (P[st]!).length = n := by rw [(unhide HGM).px st (by rw [unhide HN]; exact hstl)]; exact unhide HN
      have hmg := law_len hD
      rw [hlg] at hmg
      have hmp := law_len hPl
      rw [hlp] at hmp
      rw [hmp] at p0
      have hsk : sOf f t < kk := by rw [← hkk]; exact unhide HSG _ hlt
      obtain ⟨br, oR, hra, hbr, hcr⟩ := hD.open hlg (by omega)
      obtain ⟨tr, v0, v1, v2, rr⟩ := hcr (sOf f t) hsk
      obtain ⟨tc, t0, t1, t2, rt⟩ := hcc st hstl
      obtain ⟨cr, hcr'⟩ : ∃ c, mg.c = c := ⟨_, rfl⟩
      rw [hra, hmg, hcr'] at g0
      have HC9 : Hid (∀ W, Below wr.heap.size wr W → (fun w' : World => (w'.cell? ⟨bx, 0, none⟩ = some (.slice sf.a n sf.c) ∧ w'.cell? ⟨bx, 1, none⟩ = some (.slice sp.a n sp.c) ∧ w'.cell? ⟨bx, 2, none⟩ = some (.slice (some ⟨bg, og, none⟩) n sg.c)) ∧ w'.cell? ⟨bg, og + st, none⟩ = some (.slice (some ⟨br, oR, none⟩) kk cr) ∧ w'.cell? ⟨bs, os + t, none⟩ = some (.int .i64 ((sOf f t : Nat) : Int)) ∧ (w'.cell? ⟨bc, oc + st * 3, none⟩ = some (.bool tc.s) ∧ w'.cell? ⟨bc, oc + st * 3 + 1, none⟩ = some (.slice tc.a1 tc.n1 tc.c1) ∧ w'.cell? ⟨bc, oc + st * 3 + 2, none⟩ = some (.slice tc.a2 tc.n2 tc.c2)) ∧ (w'.cell? ⟨br, oR + sOf f t * 3, none⟩ = some (.bool tr.s) ∧ w'.cell? ⟨br, oR + sOf f t * 3 + 1, none⟩ = some (.slice tr.a1 tr.n1 tr.c1) ∧ w'.cell? ⟨br, oR + sOf f t * 3 + 2, none⟩ = some (.slice tr.a2 tr.n2 tr.c2)) ∧ (w'.cell? ⟨bl, 0, none⟩ = some (.bool tl.s) ∧ w'.cell? ⟨bl, 1, none⟩ = some (.slice tl.a1 tl.n1 tl.c1) ∧ w'.cell? ⟨bl, 2, none⟩ = some (.slice tl.a2 tl.n2 tl.c2))) W) := fun W hW => by
        have h2 := below_step hW0r hW
        have h1 := unhide HCH _ h2
        rw [hga] at h1
        refine ⟨h1, ?_, ?_, ⟨?_, ?_, ?_⟩, ⟨?_, ?_, ?_⟩, (unhide HS5).box.cells W hW⟩
        · rw [h2.cell (p := ⟨bg, og + st, none⟩) hbg]; exact g0
        · rw [hW.cell (p := ⟨bs, os + t, none⟩) hbs]; exact hcs'
        · rw [h2.cell (p := ⟨bc, oc + st * 3, none⟩) hbc]; exact t0
        · rw [h2.cell (p := ⟨bc, oc + st * 3 + 1, none⟩) hbc]; exact t1
        · rw [h2.cell (p := ⟨bc, oc + st * 3 + 2, none⟩) hbc]; exact t2
        · rw [h2.cell (p := ⟨br, oR + sOf f t * 3, none⟩) hbr]; exact v0
        · rw [h2.cell (p := ⟨br, oR + sOf f t * 3 + 1, none⟩) hbr]; exact v1
        · rw [h2.cell (p := ⟨br, oR + sOf f t * 3 + 2, none⟩) hbr]; exact v2
      have HTC0 := hide (rt.below hW0r)
      have HTR0 := hide (rr.below hW0r)
      have hpr : RS (Blf.pr m (sOf f) (Blf.vst m (sOf f) T) t) 30 := by
        have := pr_RS (r := Blf.vst m (sOf f) T) (unhide HGM) (unhide HSM) (unhide HSG) (fun i => by rw [unhide HN]; exact unhide HVL i) t ht
        rw [unhide HM] at this
        exact this.mono (by omega)
      have hqs : RS qs[st]! 1 := by
        rw [hqe st hstl, ← unhide HM]
        exact cmr_RS (unhide HGM) (unhide HSM) (fun i => by rw [unhide HN, unhide HM]; exact unhide HVL i) t st (by rw [unhide HN]; exact hstl)
      have HRL := hide (hpr.mono (show 30 ≤ 60 by omega))
      have HRC := hide (hqs.mono (show 1 ≤ 60 by omega))
      have HRM := hide ((hpr.mul hqs).mono (show 30 + 1 ≤ 60 by omega))
      have HRR := hide (((unhide HSM).rg st (sOf f t) hltG (by rw [hlg]; exact hsk)).mono (show 1 ≤ 60 by omega))
      have HKK : Hid (60 + 60 + 1 ≤ KK) := by show _ ≤ _; rw [KKe]; omega
      have HPR : Hid (Blf.pr m (sOf f) (Blf.vst m (sOf f) T) t * qs[st]! * (G[st]!)[sOf f t]! = Blf.pr m (sOf f) (Blf.vst m (sOf f) T) (t + 1)) := by
        show _ = Blf.pr m (sOf f) (Blf.vst m (sOf f) T) t * Blf.cmr m (Blf.vst m (sOf f) T) t (Blf.vst m (sOf f) T t) * m.g (Blf.vst m (sOf f) T t) (sOf f t)
        rw [hst, hqe st hstl]
        have e : m.g st (sOf f t) = (G[st]!)[sOf f t]! := by rw [← unhide HM]; rfl
        rw [e]
      have HNX : Hid (LawIs W0 mp.val P[st]! ∧ (P[st]!).length = n ∧ ∀ i, i < n → (P[st]!)[i]! = Blf.cmr m (Blf.vst m (sOf f) T) (t + 1) i) := ⟨hPl, hlp, fun i _ => by
        show _ = m.p (Blf.vst m (sOf f) T t) i
        rw [hst, ← unhide HM]; rfl⟩
      have HP0C : Hid (bp < W0.heap.size ∧ W0.cell? ⟨bp, op + st, none⟩ = some (.slice mp.a n mp.c)) := ⟨hbp, p0⟩
      have HPA := hide hpa
      have HST := hide hst
      have HSTL := hide hstl
      have g1 : (st : Int) < (n : Int) := by omega
      have g2 : (0 : Int) ≤ (st : Int) := by omega
      have g3 : ((sOf f t : Nat) : Int) < (kk : Int) := by omega
      have g4 : (0 : Int) ≤ ((sOf f t : Nat) : Int) := by omega
      have hcl1 : n ≤ lc.c ∧ lc.c ≤ 9223372036854775807 := by
        obtain ⟨a, c, e, h1, h2, _⟩ := hlc
        have e1 : lc.c = c := by injection e
        rw [e1]; exact ⟨by omega, h2⟩
      obtain ⟨sx, hsx⟩ : ∃ x, sOf f t = x := ⟨_, rfl⟩
      rw [hla, esa]
      rw [hsx] at HWS HC8 HC9 HRR HPR g3 g4 HTR0
      clear hsx hcl1
      clear S hrs hrs2 hml hlc hql hqe hA hmq h3s es eas esa hcs hcs' hW0r hla hbc hcc hB hBr hfr hqr hst hlk hltG hltP hga hbg g0 hD hpa hbp p0 hPl hkk hlg hlp hmg hmp hsk hra hbr hcr v0 v1 v2 rr t0 t1 t2 rt hcr' hpr hqs hfw hqa hbq hbs hrl hstl
      go_wp2_with fail
      clear k0
      refine wp_region_hold (fun w' : World => (w'.cell? ⟨bx, 0, none⟩ = some (.slice sf.a n sf.c) ∧ w'.cell? ⟨bx, 1, none⟩ = some (.slice sp.a n sp.c) ∧ w'.cell? ⟨bx, 2, none⟩ = some (.slice sg.a n sg.c)) ∧ w'.cell? ⟨bs, os + t, none⟩ = some (.int .i64 (sx : Int))) (by kernel_rfl) ?_
      have bd0 : Below wr.heap.size wr wr.drew := (Below.refl _ _).drew
      have hC0 : (fun w' : World => (w'.cell? ⟨bx, 0, none⟩ = some (.slice sf.a n sf.c) ∧ w'.cell? ⟨bx, 1, none⟩ = some (.slice sp.a n sp.c) ∧ w'.cell? ⟨bx, 2, none⟩ = some (.slice sg.a n sg.c)) ∧ w'.cell? ⟨bs, os + t, none⟩ = some (.int .i64 (sx : Int))) wr.drew := unhide HC8 _ bd0
      refine wpHold_take (i := 0) (v := ?_) rfl (by kernel_rfl) (by kernel_rfl) (by kernel_rfl) (fun _ _ _ h => h) (Or.inl ⟨by rfl, ?_⟩) hC0 ?_
      rotate_left
      · intro w hSw; clear hSw; go_simp; (try with_reducible rfl)
      (try simp only [List.getElem_toArray, List.getElem_cons_succ, List.getElem_cons_zero])
      (try simp only [Act.put, List.setIfInBounds_toArray, List.set_cons_zero, List.set_cons_succ])
      refine wpHold_take (i := 1) (v := ?_) rfl (by kernel_rfl) (by kernel_rfl) (by kernel_rfl) (fun _ _ _ h => h) (Or.inl ⟨by rfl, ?_⟩) hC0 ?_
      rotate_left
      · intro w hSw; (try dsimp only at hSw); obtain ⟨⟨u0, u1, u2⟩, u3⟩ := hSw; go_simp; (try with_reducible rfl)
      (try simp only [List.getElem_toArray, List.getElem_cons_succ, List.getElem_cons_zero])
      (try simp only [Act.put, List.setIfInBounds_toArray, List.set_cons_zero, List.set_cons_succ])
      refine wpHold_take (i := 2) (v := ?_) rfl (by kernel_rfl) (by kernel_rfl) (by kernel_rfl) (fun _ _ _ h => h) (Or.inl ⟨by rfl, ?_⟩) hC0 ?_
      rotate_left
      · intro w hSw; clear hSw; go_simp; (try with_reducible rfl)
      (try simp only [List.getElem_toArray, List.getElem_cons_succ, List.getElem_cons_zero])
      (try simp only [Act.put, List.setIfInBounds_toArray, List.set_cons_zero, List.set_cons_succ])
      refine wpHold_take (i := 3) (v := ?_) rfl (by kernel_rfl) (by kernel_rfl) (by kernel_rfl) (fun _ _ _ h => h) (Or.inl ⟨by rfl, ?_⟩) hC0 ?_
      rotate_left
      · intro w hSw; clear hSw; go_simp; (try with_reducible rfl)
      (try simp only [List.getElem_toArray, List.getElem_cons_succ, List.getElem_cons_zero])
      (try simp only [Act.put, List.setIfInBounds_toArray, List.set_cons_zero, List.set_cons_succ])
      refine wpHold_take (i := 4) (v := ?_) rfl (by kernel_rfl) (by kernel_rfl) (by kernel_rfl) (fun _ _ _ h => h) (Or.inl ⟨by rfl, ?_⟩) hC0 ?_
      rotate_left
      · intro w hSw; clear hSw; go_simp; (try with_reducible rfl)
      (try simp only [List.getElem_toArray, List.getElem_cons_succ, List.getElem_cons_zero])
      (try simp only [Act.put, List.setIfInBounds_toArray, List.set_cons_zero, List.set_cons_succ])
      refine wpHold_take (i := 5) (v := ?_) rfl (by kernel_rfl) (by kernel_rfl) (by kernel_rfl) (fun _ _ _ h => h) (Or.inl ⟨by rfl, ?_⟩) hC0 ?_
      rotate_left
      · intro w hSw; clear hSw; go_simp; (try with_reducible rfl)
      (try simp only [List.getElem_toArray, List.getElem_cons_succ, List.getElem_cons_zero])
      (try simp only [Act.put, List.setIfInBounds_toArray, List.set_cons_zero, List.set_cons_succ])
      refine wpHold_take (i := 6) (v := ?_) rfl (by kernel_rfl) (by kernel_rfl) (by kernel_rfl) (fun _ _ _ h => h) (Or.inl ⟨by rfl, ?_⟩) hC0 ?_
      rotate_left
      · intro w hSw; (try dsimp only at hSw); obtain ⟨⟨u0, u1, u2⟩, u3⟩ := hSw; go_simp; (try with_reducible rfl)
      (try simp only [List.getElem_toArray, List.getElem_cons_succ, List.getElem_cons_zero])
      (try simp only [Act.put, List.setIfInBounds_toArray, List.set_cons_zero, List.set_cons_succ])
      refine wpHold_one (k := 7) (by kernel_rfl) rfl (fun K hK => ?_)
      (try simp only [List.getElem_toArray, List.getElem_cons_succ, List.getElem_cons_zero])
      go_simp
      refine (unhide HWS _ bd0).mono ?_
      rintro e xw_1 ⟨gt, nt, rfl, hnt, hge, hlt1, hb_1⟩
      rw [row_length] at hnt
      obtain rfl := hnt.symm
      have cc_1 := below_step bd0 hb_1
      have hC_1 : (fun w' : World => (w'.cell? ⟨bx, 0, none⟩ = some (.slice sf.a n sf.c) ∧ w'.cell? ⟨bx, 1, none⟩ = some (.slice sp.a n sp.c) ∧ w'.cell? ⟨bx, 2, none⟩ = some (.slice sg.a n sg.c)) ∧ w'.cell? ⟨bs, os + t, none⟩ = some (.int .i64 (sx : Int))) xw_1 := unhide HC8 _ cc_1
      refine hK.out _ _ hC_1 ?_
      clear hK K
      (try simp only [Act.put, List.setIfInBounds_toArray, List.set_cons_zero, List.set_cons_succ])
      refine wpHold_one (k := 8) (by kernel_rfl) rfl (fun K hK => ?_)
      (try simp only [List.getElem_toArray, List.getElem_cons_succ, List.getElem_cons_zero])
      go_simp
      refine (unhide HLK _ _ cc_1 hlt1).mono ?_
      rintro e xw_2 ⟨rfl, hb_2⟩
      have cc_2 := below_step cc_1 hb_2
      have hC_2 : (fun w' : World => (w'.cell? ⟨bx, 0, none⟩ = some (.slice sf.a n sf.c) ∧ w'.cell? ⟨bx, 1, none⟩ = some (.slice sp.a n sp.c) ∧ w'.cell? ⟨bx, 2, none⟩ = some (.slice sg.a n sg.c)) ∧ w'.cell? ⟨bs, os + t, none⟩ = some (.int .i64 (sx : Int))) xw_2 := unhide HC8 _ cc_2
      refine hK.out _ _ hC_2 ?_
      clear hK K
      (try simp only [Act.put, List.setIfInBounds_toArray, List.set_cons_zero, List.set_cons_succ])
      refine wpHold_one (k := 9) (by kernel_rfl) rfl (fun K hK => ?_)
      (try simp only [List.getElem_toArray, List.getElem_cons_succ, List.getElem_cons_zero])
      go_simp
      refine hK.out _ _ hC_2 ?_
      clear hK K
      (try simp only [Act.put, List.setIfInBounds_toArray, List.set_cons_zero, List.set_cons_succ])
      refine wpHold_done (by kernel_rfl) ?_ _
      have HS9 := hide ((unhide HS5).keep cc_2)
      have HC9' : Hid (∀ W, Below xw_2.heap.size xw_2 W → (fun w' : World => (w'.cell? ⟨bx, 0, none⟩ = some (.slice sf.a n sf.c) ∧ w'.cell? ⟨bx, 1, none⟩ = some (.slice sp.a n sp.c) ∧ w'.cell? ⟨bx, 2, none⟩ = some (.slice (some ⟨bg, og, none⟩) n sg.c)) ∧ w'.cell? ⟨bg, og + st, none⟩ = some (.slice (some ⟨br, oR, none⟩) kk cr) ∧ w'.cell? ⟨bs, os + t, none⟩ = some (.int .i64 (sx : Int)) ∧ (w'.cell? ⟨bc, oc + st * 3, none⟩ = some (.bool tc.s) ∧ w'.cell? ⟨bc, oc + st * 3 + 1, none⟩ = some (.slice tc.a1 tc.n1 tc.c1) ∧ w'.cell? ⟨bc, oc + st * 3 + 2, none⟩ = some (.slice tc.a2 tc.n2 tc.c2)) ∧ (w'.cell? ⟨br, oR + sx * 3, none⟩ = some (.bool tr.s) ∧ w'.cell? ⟨br, oR + sx * 3 + 1, none⟩ = some (.slice tr.a1 tr.n1 tr.c1) ∧ w'.cell? ⟨br, oR + sx * 3 + 2, none⟩ = some (.slice tr.a2 tr.n2 tr.c2)) ∧ (w'.cell? ⟨bl, 0, none⟩ = some (.bool tl.s) ∧ w'.cell? ⟨bl, 1, none⟩ = some (.slice tl.a1 tl.n1 tl.c1) ∧ w'.cell? ⟨bl, 2, none⟩ = some (.slice tl.a2 tl.n2 tl.c2))) W) := fun W hW => unhide HC9 _ (below_step cc_2 hW)
      have HTC := hide ((unhide HTC0).below cc_2)
      have HTR := hide ((unhide HTR0).below cc_2)
      have HRF9 := hide ((unhide HRF).below cc_2)
      clear HC8 HWS HLK HC9 HTC0 HTR0 HS5 HRF hC0 hC_1 hC_2 cc_1 cc_2 hb_1 hb_2 bd0 hlt1 hge
      obtain ⟨w9, hw9⟩ : ∃ W, xw_2 = W := ⟨_, rfl⟩
      rw [hw9] at HS9 HC9' HTC HTR HRF9 ⊢
      have HC9 := HC9'
      clear HC9' hw9
      go_wp2_with fail
      refine wp_region_till (fun w' : World => (w'.cell? ⟨bx, 0, none⟩ = some (.slice sf.a n sf.c) ∧ w'.cell? ⟨bx, 1, none⟩ = some (.slice sp.a n sp.c) ∧ w'.cell? ⟨bx, 2, none⟩ = some (.slice (some ⟨bg, og, none⟩) n sg.c)) ∧ w'.cell? ⟨bg, og + st, none⟩ = some (.slice (some ⟨br, oR, none⟩) kk cr) ∧ w'.cell? ⟨bs, os + t, none⟩ = some (.int .i64 (sx : Int)) ∧ (w'.cell? ⟨bc, oc + st * 3, none⟩ = some (.bool tc.s) ∧ w'.cell? ⟨bc, oc + st * 3 + 1, none⟩ = some (.slice tc.a1 tc.n1 tc.c1) ∧ w'.cell? ⟨bc, oc + st * 3 + 2, none⟩ = some (.slice tc.a2 tc.n2 tc.c2)) ∧ (w'.cell? ⟨br, oR + sx * 3, none⟩ = some (.bool tr.s) ∧ w'.cell? ⟨br, oR + sx * 3 + 1, none⟩ = some (.slice tr.a1 tr.n1 tr.c1) ∧ w'.cell? ⟨br, oR + sx * 3 + 2, none⟩ = some (.slice tr.a2 tr.n2 tr.c2)) ∧ (w'.cell? ⟨bl, 0, none⟩ = some (.bool tl.s) ∧ w'.cell? ⟨bl, 1, none⟩ = some (.slice tl.a1 tl.n1 tl.c1) ∧ w'.cell? ⟨bl, 2, none⟩ = some (.slice tl.a2 tl.n2 tl.c2))) 18 (by kernel_rfl) ?_
      have bd0 : Below w9.heap.size w9 w9.drew := (Below.refl _ _).drew
      have hC0 : (fun w' : World => (w'.cell? ⟨bx, 0, none⟩ = some (.slice sf.a n sf.c) ∧ w'.cell? ⟨bx, 1, none⟩ = some (.slice sp.a n sp.c) ∧ w'.cell? ⟨bx, 2, none⟩ = some (.slice (some ⟨bg, og, none⟩) n sg.c)) ∧ w'.cell? ⟨bg, og + st, none⟩ = some (.slice (some ⟨br, oR, none⟩) kk cr) ∧ w'.cell? ⟨bs, os + t, none⟩ = some (.int .i64 (sx : Int)) ∧ (w'.cell? ⟨bc, oc + st * 3, none⟩ = some (.bool tc.s) ∧ w'.cell? ⟨bc, oc + st * 3 + 1, none⟩ = some (.slice tc.a1 tc.n1 tc.c1) ∧ w'.cell? ⟨bc, oc + st * 3 + 2, none⟩ = some (.slice tc.a2 tc.n2 tc.c2)) ∧ (w'.cell? ⟨br, oR + sx * 3, none⟩ = some (.bool tr.s) ∧ w'.cell? ⟨br, oR + sx * 3 + 1, none⟩ = some (.slice tr.a1 tr.n1 tr.c1) ∧ w'.cell? ⟨br, oR + sx * 3 + 2, none⟩ = some (.slice tr.a2 tr.n2 tr.c2)) ∧ (w'.cell? ⟨bl, 0, none⟩ = some (.bool tl.s) ∧ w'.cell? ⟨bl, 1, none⟩ = some (.slice tl.a1 tl.n1 tl.c1) ∧ w'.cell? ⟨bl, 2, none⟩ = some (.slice tl.a2 tl.n2 tl.c2))) w9.drew := unhide HC9 _ bd0
      refine wpTill_take (i := 0) (v := ?_) rfl (by kernel_rfl) (by kernel_rfl) (by kernel_rfl) (by kernel_rfl) (by kernel_rfl) (by kernel_rfl) (fun _ _ _ h => h) (Or.inl ⟨by rfl, ?_⟩) hC0 ?_
      rotate_left
      · intro w hSw; (try dsimp only at hSw); obtain ⟨⟨u0, u1, u2⟩, u3, u4, ⟨u5, u6, u7⟩, ⟨u8, u9, u10⟩, ⟨u11, u12, u13⟩⟩ := hSw; go_simp; (try with_reducible rfl)
      (try simp only [List.getElem_toArray, List.getElem_cons_succ, List.getElem_cons_zero])
      (try simp only [Act.put, List.setIfInBounds_toArray, List.set_cons_zero, List.set_cons_succ])
      refine wpTill_pure (i := 1) (v := ?_) rfl (by kernel_rfl) (by kernel_rfl) (by kernel_rfl) (by kernel_rfl) (fun _ _ _ h => h) (Or.inl ⟨by rfl, ?_⟩) (fun _ => hC0) ?_
      rotate_left
      · intro w hSw; clear hSw; go_simp; (try with_reducible rfl)
      (try simp only [List.getElem_toArray, List.getElem_cons_succ, List.getElem_cons_zero])
      (try simp only [Act.put, List.setIfInBounds_toArray, List.set_cons_zero, List.set_cons_succ])
      refine wpTill_pure (i := 2) (v := ?_) rfl (by kernel_rfl) (by kernel_rfl) (by kernel_rfl) (by kernel_rfl) (fun _ _ _ h => h) (Or.inl ⟨by rfl, ?_⟩) (fun _ => hC0) ?_
      rotate_left
      · intro w hSw; clear hSw; go_simp; (try with_reducible rfl)
      (try simp only [List.getElem_toArray, List.getElem_cons_succ, List.getElem_cons_zero])
      (try simp only [Act.put, List.setIfInBounds_toArray, List.set_cons_zero, List.set_cons_succ])
      refine wpTill_pure (i := 3) (v := ?_) rfl (by kernel_rfl) (by kernel_rfl) (by kernel_rfl) (by kernel_rfl) (fun _ _ _ h => h) (Or.inl ⟨by rfl, ?_⟩) (fun _ => hC0) ?_
      rotate_left
      · intro w hSw; clear hSw; go_simp; (try with_reducible rfl)
      (try simp only [List.getElem_toArray, List.getElem_cons_succ, List.getElem_cons_zero])
      (try simp only [Act.put, List.setIfInBounds_toArray, List.set_cons_zero, List.set_cons_succ])
      refine wpTill_take (i := 4) (v := ?_) rfl (by kernel_rfl) (by kernel_rfl) (by kernel_rfl) (by kernel_rfl) (by kernel_rfl) (by kernel_rfl) (fun _ _ _ h => h) (Or.inl ⟨by rfl, ?_⟩) hC0 ?_
      rotate_left
      · intro w hSw; (try dsimp only at hSw); obtain ⟨⟨u0, u1, u2⟩, u3, u4, ⟨u5, u6, u7⟩, ⟨u8, u9, u10⟩, ⟨u11, u12, u13⟩⟩ := hSw; go_simp; (try with_reducible rfl)
      (try simp only [List.getElem_toArray, List.getElem_cons_succ, List.getElem_cons_zero])
      (try simp only [Act.put, List.setIfInBounds_toArray, List.set_cons_zero, List.set_cons_succ])
      refine wpTill_pure (i := 6) (v := ?_) rfl (by kernel_rfl) (by kernel_rfl) (by kernel_rfl) (by kernel_rfl) (fun _ _ _ h => h) (Or.inl ⟨by rfl, ?_⟩) (fun _ => hC0) ?_
      rotate_left
      · intro w hSw; clear hSw; go_simp; (try with_reducible rfl)
      (try simp only [List.getElem_toArray, List.getElem_cons_succ, List.getElem_cons_zero])
      (try simp only [Act.put, List.setIfInBounds_toArray, List.set_cons_zero, List.set_cons_succ])
      refine wpTill_take (i := 7) (v := ?_) rfl (by kernel_rfl) (by kernel_rfl) (by kernel_rfl) (by kernel_rfl) (by kernel_rfl) (by kernel_rfl) (fun _ _ _ h => h) (Or.inl ⟨by rfl, ?_⟩) hC0 ?_
      rotate_left
      · intro w hSw; (try dsimp only at hSw); obtain ⟨⟨u0, u1, u2⟩, u3, u4, ⟨u5, u6, u7⟩, ⟨u8, u9, u10⟩, ⟨u11, u12, u13⟩⟩ := hSw; go_simp; (try with_reducible rfl)
      (try simp only [List.getElem_toArray, List.getElem_cons_succ, List.getElem_cons_zero])
      (try simp only [Act.put, List.setIfInBounds_toArray, List.set_cons_zero, List.set_cons_succ])
      refine wpTill_pure (i := 8) (v := ?_) rfl (by kernel_rfl) (by kernel_rfl) (by kernel_rfl) (by kernel_rfl) (fun _ _ _ h => h) (Or.inl ⟨by rfl, ?_⟩) (fun _ => hC0) ?_
      rotate_left
      · intro w hSw; clear hSw; go_simp; (try with_reducible rfl)
      (try simp only [List.getElem_toArray, List.getElem_cons_succ, List.getElem_cons_zero])
      (try simp only [Act.put, List.setIfInBounds_toArray, List.set_cons_zero, List.set_cons_succ])
      refine wpTill_pure (i := 9) (v := ?_) rfl (by kernel_rfl) (by kernel_rfl) (by kernel_rfl) (by kernel_rfl) (fun _ _ _ h => h) (Or.inl ⟨by rfl, ?_⟩) (fun _ => hC0) ?_
      rotate_left
      · intro w hSw; clear hSw; go_simp; (try with_reducible rfl)
      (try simp only [List.getElem_toArray, List.getElem_cons_succ, List.getElem_cons_zero])
      (try simp only [Act.put, List.setIfInBounds_toArray, List.set_cons_zero, List.set_cons_succ])
      refine wpTill_take (i := 10) (v := ?_) rfl (by kernel_rfl) (by kernel_rfl) (by kernel_rfl) (by kernel_rfl) (by kernel_rfl) (by kernel_rfl) (fun _ _ _ h => h) (Or.inl ⟨by rfl, ?_⟩) hC0 ?_
      rotate_left
      · intro w hSw; (try dsimp only at hSw); obtain ⟨⟨u0, u1, u2⟩, u3, u4, ⟨u5, u6, u7⟩, ⟨u8, u9, u10⟩, ⟨u11, u12, u13⟩⟩ := hSw; go_simp; (try with_reducible rfl)
      (try simp only [List.getElem_toArray, List.getElem_cons_succ, List.getElem_cons_zero])
      (try simp only [Act.put, List.setIfInBounds_toArray, List.set_cons_zero, List.set_cons_succ])
      refine wpTill_pure (i := 11) (v := ?_) rfl (by kernel_rfl) (by kernel_rfl) (by kernel_rfl) (by kernel_rfl) (fun _ _ _ h => h) (Or.inl ⟨by rfl, ?_⟩) (fun _ => hC0) ?_
      rotate_left
      · intro w hSw; clear hSw; go_simp; (try with_reducible rfl)
      (try simp only [List.getElem_toArray, List.getElem_cons_succ, List.getElem_cons_zero])
      (try simp only [Act.put, List.setIfInBounds_toArray, List.set_cons_zero, List.set_cons_succ])
      refine wpTill_pure (i := 12) (v := ?_) rfl (by kernel_rfl) (by kernel_rfl) (by kernel_rfl) (by kernel_rfl) (fun _ _ _ h => h) (Or.inl ⟨by rfl, ?_⟩) (fun _ => hC0) ?_
      rotate_left
      · intro w hSw; clear hSw; go_simp; (try with_reducible rfl)
      (try simp only [List.getElem_toArray, List.getElem_cons_succ, List.getElem_cons_zero])
      (try simp only [Act.put, List.setIfInBounds_toArray, List.set_cons_zero, List.set_cons_succ])
      refine wpTill_pure (i := 13) (v := ?_) rfl (by kernel_rfl) (by kernel_rfl) (by kernel_rfl) (by kernel_rfl) (fun _ _ _ h => h) (Or.inl ⟨by rfl, ?_⟩) (fun _ => hC0) ?_
      rotate_left
      · intro w hSw; clear hSw; go_simp; (try with_reducible rfl)
      (try simp only [List.getElem_toArray, List.getElem_cons_succ, List.getElem_cons_zero])
      (try simp only [Act.put, List.setIfInBounds_toArray, List.set_cons_zero, List.set_cons_succ])
      refine wpTill_take (i := 14) (v := ?_) rfl (by kernel_rfl) (by kernel_rfl) (by kernel_rfl) (by kernel_rfl) (by kernel_rfl) (by kernel_rfl) (fun _ _ _ h => h) (Or.inl ⟨by rfl, ?_⟩) hC0 ?_
      rotate_left
      · intro w hSw; (try dsimp only at hSw); obtain ⟨⟨u0, u1, u2⟩, u3, u4, ⟨u5, u6, u7⟩, ⟨u8, u9, u10⟩, ⟨u11, u12, u13⟩⟩ := hSw; go_simp; (try with_reducible rfl)
      (try simp only [List.getElem_toArray, List.getElem_cons_succ, List.getElem_cons_zero])
      (try simp only [Act.put, List.setIfInBounds_toArray, List.set_cons_zero, List.set_cons_succ])
      refine wpTill_pure (i := 15) (v := ?_) rfl (by kernel_rfl) (by kernel_rfl) (by kernel_rfl) (by kernel_rfl) (fun _ _ _ h => h) (Or.inl ⟨by rfl, ?_⟩) (fun _ => hC0) ?_
      rotate_left
      · intro w hSw; clear hSw; go_simp; (try with_reducible rfl)
      (try simp only [List.getElem_toArray, List.getElem_cons_succ, List.getElem_cons_zero])
      (try simp only [Act.put, List.setIfInBounds_toArray, List.set_cons_zero, List.set_cons_succ])
      refine wpTill_take (i := 16) (v := ?_) rfl (by kernel_rfl) (by kernel_rfl) (by kernel_rfl) (by kernel_rfl) (by kernel_rfl) (by kernel_rfl) (fun _ _ _ h => h) (Or.inl ⟨by rfl, ?_⟩) hC0 ?_
      rotate_left
      · intro w hSw; (try dsimp only at hSw); obtain ⟨⟨u0, u1, u2⟩, u3, u4, ⟨u5, u6, u7⟩, ⟨u8, u9, u10⟩, ⟨u11, u12, u13⟩⟩ := hSw; go_simp; (try with_reducible rfl)
      (try simp only [List.getElem_toArray, List.getElem_cons_succ, List.getElem_cons_zero])
      (try simp only [Act.put, List.setIfInBounds_toArray, List.set_cons_zero, List.set_cons_succ])
      refine wpTill_one (k := 5) (by kernel_rfl) rfl (fun K hK => ?_)
      (try simp only [List.getElem_toArray, List.getElem_cons_succ, List.getElem_cons_zero])
      go_simp
      refine (mulR_any tl.val tc.val _ _ _ ((unhide HS9).box.2.below bd0) ((unhide HTC).below bd0) 60 (unhide HRL) (unhide HRC) (unhide HKK)).mono ?_
      rintro e xw_1 ⟨xv_1, rfl, hv_1, hb_1⟩
      have cc_1 := below_step bd0 hb_1
      have hC_1 : (fun w' : World => (w'.cell? ⟨bx, 0, none⟩ = some (.slice sf.a n sf.c) ∧ w'.cell? ⟨bx, 1, none⟩ = some (.slice sp.a n sp.c) ∧ w'.cell? ⟨bx, 2, none⟩ = some (.slice (some ⟨bg, og, none⟩) n sg.c)) ∧ w'.cell? ⟨bg, og + st, none⟩ = some (.slice (some ⟨br, oR, none⟩) kk cr) ∧ w'.cell? ⟨bs, os + t, none⟩ = some (.int .i64 (sx : Int)) ∧ (w'.cell? ⟨bc, oc + st * 3, none⟩ = some (.bool tc.s) ∧ w'.cell? ⟨bc, oc + st * 3 + 1, none⟩ = some (.slice tc.a1 tc.n1 tc.c1) ∧ w'.cell? ⟨bc, oc + st * 3 + 2, none⟩ = some (.slice tc.a2 tc.n2 tc.c2)) ∧ (w'.cell? ⟨br, oR + sx * 3, none⟩ = some (.bool tr.s) ∧ w'.cell? ⟨br, oR + sx * 3 + 1, none⟩ = some (.slice tr.a1 tr.n1 tr.c1) ∧ w'.cell? ⟨br, oR + sx * 3 + 2, none⟩ = some (.slice tr.a2 tr.n2 tr.c2)) ∧ (w'.cell? ⟨bl, 0, none⟩ = some (.bool tl.s) ∧ w'.cell? ⟨bl, 1, none⟩ = some (.slice tl.a1 tl.n1 tl.c1) ∧ w'.cell? ⟨bl, 2, none⟩ = some (.slice tl.a2 tl.n2 tl.c2))) xw_1 := unhide HC9 _ cc_1
      refine hK.out _ _ (fun _ => hC_1) ?_
      clear hK K
      (try simp only [Act.put, List.setIfInBounds_toArray, List.set_cons_zero, List.set_cons_succ])
      refine wpTill_one (k := 17) (by kernel_rfl) rfl (fun K hK => ?_)
      (try simp only [List.getElem_toArray, List.getElem_cons_succ, List.getElem_cons_zero])
      go_simp
      refine (mulR_any _ tr.val _ _ _ hv_1 ((unhide HTR).below cc_1) 60 (unhide HRM) (unhide HRR) (unhide HKK)).mono ?_
      rintro e xw_2 ⟨xv_2, rfl, hv_2, hb_2⟩
      have cc_2 := below_step cc_1 hb_2
      have hC_2 : (fun w' : World => (w'.cell? ⟨bx, 0, none⟩ = some (.slice sf.a n sf.c) ∧ w'.cell? ⟨bx, 1, none⟩ = some (.slice sp.a n sp.c) ∧ w'.cell? ⟨bx, 2, none⟩ = some (.slice (some ⟨bg, og, none⟩) n sg.c)) ∧ w'.cell? ⟨bg, og + st, none⟩ = some (.slice (some ⟨br, oR, none⟩) kk cr) ∧ w'.cell? ⟨bs, os + t, none⟩ = some (.int .i64 (sx : Int)) ∧ (w'.cell? ⟨bc, oc + st * 3, none⟩ = some (.bool tc.s) ∧ w'.cell? ⟨bc, oc + st * 3 + 1, none⟩ = some (.slice tc.a1 tc.n1 tc.c1) ∧ w'.cell? ⟨bc, oc + st * 3 + 2, none⟩ = some (.slice tc.a2 tc.n2 tc.c2)) ∧ (w'.cell? ⟨br, oR + sx * 3, none⟩ = some (.bool tr.s) ∧ w'.cell? ⟨br, oR + sx * 3 + 1, none⟩ = some (.slice tr.a1 tr.n1 tr.c1) ∧ w'.cell? ⟨br, oR + sx * 3 + 2, none⟩ = some (.slice tr.a2 tr.n2 tr.c2)) ∧ (w'.cell? ⟨bl, 0, none⟩ = some (.bool tl.s) ∧ w'.cell? ⟨bl, 1, none⟩ = some (.slice tl.a1 tl.n1 tl.c1) ∧ w'.cell? ⟨bl, 2, none⟩ = some (.slice tl.a2 tl.n2 tl.c2))) xw_2 := unhide HC9 _ cc_2
      refine hK.out _ _ (fun _ => hC_2) ?_
      clear hK K
      (try simp only [Act.put, List.setIfInBounds_toArray, List.set_cons_zero, List.set_cons_succ])
      obtain ⟨t5, rfl, r5⟩ := tri_of hv_2
      simp only [Tri.val]
      have S8 := (unhide HS9).keep cc_2
      have ⟨l0, l1, l2⟩ := S8.box.free
      have ⟨y0, y1, y2⟩ := S8.box.cells _ (Below.refl _ _)
      have NB := S8.box.set r5
      have OR := S8.row.other (x0 := .bool t5.s) (x1 := .slice t5.a1 t5.n1 t5.c1) (x2 := .slice t5.a2 t5.n2 t5.c2) S8.ne
      have YB := ((S8.below.setCell (p := ⟨bl, 0, none⟩) S8.gb (.bool t5.s)).setCell (p := ⟨bl, 1, none⟩) S8.gb (.slice t5.a1 t5.n1 t5.c1)).setCell (p := ⟨bl, 2, none⟩) S8.gb (.slice t5.a2 t5.n2 t5.c2)
      obtain ⟨WA, hWA⟩ : ∃ W, ((xw_2.setCell ⟨bl, 0, none⟩ (.bool t5.s)).setCell ⟨bl, 1, none⟩ (.slice t5.a1 t5.n1 t5.c1)).setCell ⟨bl, 2, none⟩ (.slice t5.a2 t5.n2 t5.c2) = W := ⟨_, rfl⟩
      rw [hWA] at NB YB OR
      have HNB := hide NB
      have HYB := hide YB
      have HOR := hide OR
      clear S8 NB YB OR r5 hv_1 hv_2
      refine wpTill_one (k := 18) (by kernel_rfl) rfl (fun K hK => ?_)
      (try simp only [List.getElem_toArray, List.getElem_cons_succ, List.getElem_cons_zero])
      go_simp
      refine hK.out _ _ (fun h => absurd (h.symm.trans (by kernel_rfl)) Bool.false_ne_true) ?_
      clear hK K
      (try simp only [Act.put, List.setIfInBounds_toArray, List.set_cons_zero, List.set_cons_succ])
      refine wpTill_done (by kernel_rfl) ?_ _
      rw [unhide HPR] at HNB
      have HRFA : Hid (RowsFr W3.heap.size WA (.slice (some ⟨bq, 0, none⟩) T T) (mrows T n (fun i => Blf.bw m (sOf f) T (Blf.mo n) (T - 1 - i)))) := by
        have hx := (unhide HRF9).below cc_2
        have hS := (unhide HS9).keep cc_2
        rw [← hWA]
        refine hx.map (by simp [World.setCell]) (fun k hk _ => ?_) (fun v q h => ?_)
        · have hlt3 : bl < W3.heap.size := unhide HBL3
          rw [Below.heap_setCell _ _ _ _ (by show k ≠ bl; omega), Below.heap_setCell _ _ _ _ (by show k ≠ bl; omega), Below.heap_setCell _ _ _ _ (by show k ≠ bl; omega)]
        · exact (rat_boxed (w0 := W1) h hS.box.1 hS.below hS.gb _ _ _).1
      clear HRF9 HS9 HC9 HTC HTR y0 y1 y2 l0 l1 l2 hWA hC0 hC_1 hC_2 cc_1 cc_2 hb_1 hb_2 bd0
      have hWA0 := below_step (unhide HBR) (unhide HYB)
      have ⟨d0, d1, d2⟩ := unhide HCH _ hWA0
      rw [unhide HPA] at d1
      have p0 := (unhide HP0C).2
      rw [← hWA0.cell (p := ⟨bp, op + st, none⟩) (unhide HP0C).1] at p0
      have o1 := (unhide HOR).cell hlt
      have o2 := (unhide HOR).free t
      have FB := (unhide HYB).setCell (p := ⟨gr, t, none⟩) (unhide HGR) (.int .i64 (st : Int))
      have FO := (unhide HOR).set t (st : Int)
      have hgb : gr ≠ bl := unhide HNE
      have FX := (unhide HNB).ints (j := t) (x := (st : Int)) (unhide HOR) hgb.symm
      have FR : RowsFr W3.heap.size (WA.setCell ⟨gr, t, none⟩ (.int .i64 (st : Int))) (.slice (some ⟨bq, 0, none⟩) T T) (mrows T n (fun i => Blf.bw m (sOf f) T (Blf.mo n) (T - 1 - i))) := (unhide HRFA).map (by simp [World.setCell]) (fun k hk _ => by
        have hlt3 : gr < W3.heap.size := unhide HGR3
        rw [Below.heap_setCell _ _ _ _ (by show k ≠ gr; omega)]) (fun v q h => h.ints (unhide HOR))
      obtain ⟨WB, hWB⟩ : ∃ W, WA.setCell ⟨gr, t, none⟩ (.int .i64 (st : Int)) = W := ⟨_, rfl⟩
      rw [hWB] at FB FO FX FR
      have HFS : Hid (PaS W1 WB bl gr T n (t + 1) t5 m (sOf f)) := ⟨FO.congr (fun i hi => by
        unfold updI
        by_cases e : i = t
        · rw [if_pos e, e, if_pos (by omega), unhide HST]
        · rw [if_neg e]
          show (if i < t then _ else _) = _
          by_cases e2 : i < t
          · rw [if_pos e2, if_pos (by omega)]
          · rw [if_neg e2, if_neg (by omega)]), FX, unhide HGR, unhide HGL, FB⟩
      have HFR := hide FR
      clear FB FO FX FR hgb HRFA HNB HOR HYB hWA0
      go_wp2_with fail
      exact ⟨⟨t + 1, t5, mp, _, rfl, by go_num, hlt, unhide HFS, (unhide HNX).1, (unhide HNX).2.1, (unhide HNX).2.2, unhide HFR⟩, by simp [intOf]; omega⟩
    · obtain rfl : t = T := by omega
      have f1 : ¬ (t : Int) < (t : Int) := by omega
      obtain ⟨q, hq⟩ : ∃ q, Blf.pr m (sOf f) (Blf.vst m (sOf f) t) t = q := ⟨_, rfl⟩
      have HQ := hide hq
      have hbx := S.box
      rw [hq] at hbx
      have ⟨c0, c1, c2⟩ := hbx.cells _ (Below.refl _ _)
      have HSI := hide (sign_any tl.val q wr hbx.2)
      clear S hrs hlc hql hqe hq hbx HRF
      by_cases hq0 : q = 0
      · have e1 : (q.num.sign == 0) = true := by rw [hq0]; rfl
        have HQ0 := hide hq0
        obtain ⟨sg_, hsg_⟩ : ∃ x, q.num.sign = x := ⟨_, rfl⟩
        rw [hsg_] at HSI e1
        clear hq0 hsg_
        go_wp2_with fail
        refine (unhide HSI).mono ?_
        rintro e wz ⟨rfl, hbz⟩
        have HBZ := hide (below_step (unhide HS5).below hbz)
        clear c0 c1 c2 hbz
        have XR := unhide HX _ (unhide HBZ)
        have ⟨l0, l1, l2⟩ := XR.free
        have ⟨y0, y1, y2⟩ := XR.cells _ (Below.refl _ _)
        have FIN := XR.set (t' := zTri) (q' := 0) (rat_zero _)
        have FB := (((unhide HBW _ (unhide HBZ)).setCell (p := ⟨R, 0, none⟩) (unhide HG) (.bool false)).setCell (p := ⟨R, 1, none⟩) (unhide HG) (.slice none 0 0)).setCell (p := ⟨R, 2, none⟩) (unhide HG) (.slice none 0 0)
        obtain ⟨Wf, hWf⟩ : ∃ W, ((wz.setCell ⟨R, 0, none⟩ (.bool false)).setCell ⟨R, 1, none⟩ (.slice none 0 0)).setCell ⟨R, 2, none⟩ (.slice none 0 0) = W := ⟨_, rfl⟩
        have FIN' : BoxIs Wf R zTri 0 := by rw [← hWf]; exact FIN
        have HFB : Hid (Below w.heap.size w Wf) := by show Below w.heap.size w Wf; rw [← hWf]; exact FB
        have ⟨x0, x1, x2⟩ := FIN'.cells _ (Below.refl _ _)
        clear XR FIN FB FIN'
        go_wp2
        (try simp only [Exit.inBlock, Exit.then])
        exact bodyPost_ret (v := .tuple #[.slice none 0 0, .agg #[.bool false, .slice none 0 0, .slice none 0 0], .iface 59 (.int .i64 8)]) (by simp [results, Tryz.results53, go_sem, x0, x1, x2, zTri]) rfl (Or.inr ⟨fun h => h.2 (by rw [unhide HM, unhide HQ]; exact unhide HQ0), 8, rfl, unhide HFB⟩)
      · have e1 : (q.num.sign == 0) = false := by
          rw [beq_eq_false_iff_ne]
          intro e
          exact hq0 (Rat.num_eq_zero.1 (Int.sign_eq_zero_iff_zero.1 e))
        have HQ0 := hide hq0
        obtain ⟨sg_, hsg_⟩ : ∃ x, q.num.sign = x := ⟨_, rfl⟩
        rw [hsg_] at HSI e1
        clear hq0 hsg_
        go_wp2_with fail
        refine (unhide HSI).mono ?_
        rintro e wz ⟨rfl, hbz⟩
        have HBZ := hide (below_step (unhide HS5).below hbz)
        have HSZ := hide ((unhide HS5).keep hbz)
        have HC14 : Hid (∀ W, Below wz.heap.size wz W → (fun w' : World => (w'.cell? ⟨bl, 0, none⟩ = some (.bool tl.s) ∧ w'.cell? ⟨bl, 1, none⟩ = some (.slice tl.a1 tl.n1 tl.c1) ∧ w'.cell? ⟨bl, 2, none⟩ = some (.slice tl.a2 tl.n2 tl.c2))) W) := fun W hW => (unhide HSZ).box.cells W hW
        clear c0 c1 c2 hbz
        go_wp2_with fail
        refine wp_region_till (fun w' : World => (w'.cell? ⟨bl, 0, none⟩ = some (.bool tl.s) ∧ w'.cell? ⟨bl, 1, none⟩ = some (.slice tl.a1 tl.n1 tl.c1) ∧ w'.cell? ⟨bl, 2, none⟩ = some (.slice tl.a2 tl.n2 tl.c2))) 3 (by kernel_rfl) ?_
        have bd0 : Below wz.heap.size wz wz.drew := (Below.refl _ _).drew
        obtain ⟨Wd, hWd⟩ : ∃ W, wz.drew = W := ⟨_, rfl⟩
        rw [hWd] at bd0 ⊢
        have hC0 : (fun w' : World => (w'.cell? ⟨bl, 0, none⟩ = some (.bool tl.s) ∧ w'.cell? ⟨bl, 1, none⟩ = some (.slice tl.a1 tl.n1 tl.c1) ∧ w'.cell? ⟨bl, 2, none⟩ = some (.slice tl.a2 tl.n2 tl.c2))) Wd := unhide HC14 _ bd0
        refine wpTill_pure (i := 0) (v := ?_) rfl (by kernel_rfl) (by kernel_rfl) (by kernel_rfl) (by kernel_rfl) (fun _ _ _ h => h) (Or.inl ⟨by rfl, ?_⟩) (fun _ => hC0) ?_
        rotate_left
        · intro w hSw; clear hSw; go_simp; (try with_reducible rfl)
        (try simp only [List.getElem_toArray, List.getElem_cons_succ, List.getElem_cons_zero])
        (try simp only [Act.put, List.setIfInBounds_toArray, List.set_cons_zero, List.set_cons_succ])
        refine wpTill_take (i := 1) (v := ?_) rfl (by kernel_rfl) (by kernel_rfl) (by kernel_rfl) (by kernel_rfl) (by kernel_rfl) (by kernel_rfl) (fun _ _ _ h => h) (Or.inl ⟨by rfl, ?_⟩) hC0 ?_
        rotate_left
        · intro w hSw; (try dsimp only at hSw); obtain ⟨u0, u1, u2⟩ := hSw; go_simp; (try with_reducible rfl)
        (try simp only [List.getElem_toArray, List.getElem_cons_succ, List.getElem_cons_zero])
        (try simp only [Act.put, List.setIfInBounds_toArray, List.set_cons_zero, List.set_cons_succ])
        refine wpTill_pure (i := 2) (v := ?_) rfl (by kernel_rfl) (by kernel_rfl) (by kernel_rfl) (by kernel_rfl) (fun _ _ _ h => h) (Or.inl ⟨by rfl, ?_⟩) (fun _ => hC0) ?_
        rotate_left
        · intro w hSw; clear hSw; go_simp; (try with_reducible rfl)
        (try simp only [List.getElem_toArray, List.getElem_cons_succ, List.getElem_cons_zero])
        (try simp only [Act.put, List.setIfInBounds_toArray, List.set_cons_zero, List.set_cons_succ])
        have S9 := (unhide HSZ).keep bd0
        have XR := unhide HX _ (below_step (unhide HBZ) bd0)
        have ⟨l0, l1, l2⟩ := XR.free
        have ⟨y0, y1, y2⟩ := XR.cells _ (Below.refl _ _)
        have FIN := XR.set S9.box.2
        have hRg : gr ≠ R := fun e => by have := S9.gg; have := (unhide HX _ (Below.refl _ _)).lt; omega
        have OR := S9.row.other (x0 := .bool tl.s) (x1 := .slice tl.a1 tl.n1 tl.c1) (x2 := .slice tl.a2 tl.n2 tl.c2) hRg
        have FB := (((unhide HBW _ (below_step (unhide HBZ) bd0)).setCell (p := ⟨R, 0, none⟩) (unhide HG) (.bool tl.s)).setCell (p := ⟨R, 1, none⟩) (unhide HG) (.slice tl.a1 tl.n1 tl.c1)).setCell (p := ⟨R, 2, none⟩) (unhide HG) (.slice tl.a2 tl.n2 tl.c2)
        obtain ⟨Wf, hWf⟩ : ∃ W, ((Wd.setCell ⟨R, 0, none⟩ (.bool tl.s)).setCell ⟨R, 1, none⟩ (.slice tl.a1 tl.n1 tl.c1)).setCell ⟨R, 2, none⟩ (.slice tl.a2 tl.n2 tl.c2) = W := ⟨_, rfl⟩
        rw [hWf] at FIN FB OR
        have HFIN := hide FIN
        have HFB := hide FB
        have HOR := hide OR
        clear S9 XR FIN FB OR hRg
        refine wpTill_one (k := 3) (by kernel_rfl) rfl (fun K hK => ?_)
        (try simp only [List.getElem_toArray, List.getElem_cons_succ, List.getElem_cons_zero])
        go_simp
        refine hK.out _ _ (fun h => absurd (h.symm.trans (by kernel_rfl)) Bool.false_ne_true) ?_
        clear hK K
        (try simp only [Act.put, List.setIfInBounds_toArray, List.set_cons_zero, List.set_cons_succ])
        refine wpTill_pure (i := 4) (v := ?_) rfl (by kernel_rfl) (by kernel_rfl) (by kernel_rfl) (by kernel_rfl) (fun _ _ _ h => h) (Or.inl ⟨by rfl, ?_⟩) (fun h => absurd (h.symm.trans (by kernel_rfl)) Bool.false_ne_true) ?_
        rotate_left
        · intro w hSw; clear hSw; go_simp; (try with_reducible rfl)
        (try simp only [List.getElem_toArray, List.getElem_cons_succ, List.getElem_cons_zero])
        (try simp only [Act.put, List.setIfInBounds_toArray, List.set_cons_zero, List.set_cons_succ])
        refine wpTill_done (by kernel_rfl) ?_ _
        have ⟨x0, x1, x2⟩ := (unhide HFIN).cells _ (Below.refl _ _)
        clear y0 y1 y2 l0 l1 l2 hWf hC0 bd0 hWd HC14
        go_wp2
        (try simp only [Exit.inBlock, Exit.then])
        refine bodyPost_ret (v := .tuple #[.slice (some ⟨gr, 0, none⟩) t t, .agg #[.bool tl.s, .slice tl.a1 tl.n1 tl.c1, .slice tl.a2 tl.n2 tl.c2], .nilIface]) (by simp [results, Tryz.results53, go_sem, x0, x1, x2]) rfl (Or.inl ⟨unhide HZ, by rw [unhide HM, unhide HQ]; exact unhide HQ0, gr, tl, rfl, ?_, ?_, unhide HFB⟩)
        · rw [unhide HM]
          exact ((unhide HOR).congr (fun j hj => if_pos hj)).nrow (by omega)
        · rw [unhide HM]
          exact (unhide HFIN).2

end Go.Proofs.YtfnbjenneodcdaaGreatDoor
