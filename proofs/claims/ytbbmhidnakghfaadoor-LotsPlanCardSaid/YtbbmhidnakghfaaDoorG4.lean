/- The plan, by the program: the whole. -/
import Derived.Test.YtbbmhidnakghfaaDoorG3
namespace Go.Proofs.YtbbmhidnakghfaaDoor
open Go.RowKit Go.Sort

theorem cells3 {w : World} {g : Nat} {x y z : Value} {T : TypeId} (h : w.heap[g]? = some (.cells #[x, y, z] T)) : w.cell? ⟨g, 0, none⟩ = some x ∧ w.cell? ⟨g, 1, none⟩ = some y ∧ w.cell? ⟨g, 2, none⟩ = some z := by simp [World.cell?, h]
theorem blk_lt {w : World} {g : Nat} {o : Obj} (h : w.heap[g]? = some o) : g < w.heap.size := (Array.getElem?_eq_some_iff.1 h).1
theorem blk_keep {w w' : World} {g : Nat} {o : Obj} (h : w.heap[g]? = some o) (hb : Below w.heap.size w w') : w'.heap[g]? = some o := by rw [hb.block g (blk_lt h)]; exact h
theorem blk_apart {w : World} {g p j : Nat} {o : Obj} {v : Value} (h : w.heap[g]? = some o) (hne : g ≠ p) : (w.setCell ⟨p, j, none⟩ v).heap[g]? = some o := by rw [Below.heap_setCell _ _ _ _ hne]; exact h
/-- What the first loop holds. -/
structure PlA (w wr : World) (g GL GB n : Nat) (x y z : Value) (N : Lot.Nd) (m : Nat) : Prop where
  bl : Below w.heap.size w wr
  box : wr.heap[g]? = some (.cells #[x, y, z] 24)
  le : OwnI wr GL n (fun i => (Lot.tab N m i).1)
  be : OwnI wr GB n (fun i => ((Lot.tab N m i).2 : Int))
theorem PlA.keep {w wr w' : World} {g GL GB n m : Nat} {x y z : Value} {N : Lot.Nd} (h : PlA w wr g GL GB n x y z N m) (hb : Below wr.heap.size wr w') : PlA w w' g GL GB n x y z N m :=
  ⟨below_step h.bl hb, blk_keep h.box hb, h.le.keep hb, h.be.keep hb⟩
theorem tab_next (N : Lot.Nd) (m i : Nat) : Lot.tab N (m + 1) i = if i = m + 1 then Lot.sc N (fun j => (Lot.tab N m j).1) (m + 1) (m + 1) else Lot.tab N m i := rfl
theorem PlA.next {w wr : World} {g GL GB n m : Nat} {x y z : Value} {N : Lot.Nd} (h : PlA w wr g GL GB n x y z N m) (h1 : w.heap.size ≤ g) (h2 : g < GL) (h3 : GL < GB) {c : Int} {b : Nat} {m1 : Nat} (hm1 : m + 1 = m1) (hs : Lot.sc N (fun j => (Lot.tab N m j).1) (m + 1) (m + 1) = (c, b)) :
    PlA w ((wr.setCell ⟨GL, m1, none⟩ (.int .i64 c)).setCell ⟨GB, m1, none⟩ (.int .i64 (b : Int))) g GL GB n x y z N m1 := by
  subst hm1
  refine ⟨(h.bl.setCell (p := ⟨GL, m + 1, none⟩) (by show w.heap.size ≤ GL; omega) _).setCell (p := ⟨GB, m + 1, none⟩) (by show w.heap.size ≤ GB; omega) _, blk_apart (blk_apart h.box (by omega)) (by omega), ?_, ?_⟩
  · refine ((h.le.set (m + 1) c).apart (by omega)).congr fun j _ => ?_
    unfold updI
    rw [tab_next]
    by_cases hj : j = m + 1
    · rw [if_pos hj, if_pos hj, hs]
    · rw [if_neg hj, if_neg hj]
  · refine ((h.be.apart (g := GL) (j := m + 1) (v := .int .i64 c) (by omega)).set (m + 1) (b : Int)).congr fun j _ => ?_
    unfold updI
    rw [tab_next]
    by_cases hj : j = m + 1
    · rw [if_pos hj, if_pos hj, hs]
    · rw [if_neg hj, if_neg hj]
/-- What the second loop holds. -/
structure PlB (w wr : World) (g GL GB GO n l : Nat) (x y z : Value) (N : Lot.Nd) (q : Nat → Int) : Prop where
  a : PlA w wr g GL GB l x y z N n
  od : OwnI wr GO n q
theorem PlB.set {w wr : World} {g GL GB GO n l : Nat} {x y z : Value} {N : Lot.Nd} {q : Nat → Int} (h : PlB w wr g GL GB GO n l x y z N q) (h1 : w.heap.size ≤ g) (h2 : g < GL) (h3 : GL < GB) (h4 : GB < GO) (j : Nat) (v : Int) :
    PlB w (wr.setCell ⟨GO, j, none⟩ (.int .i64 v)) g GL GB GO n l x y z N (updI q j v) :=
  ⟨⟨h.a.bl.setCell (p := ⟨GO, j, none⟩) (by show w.heap.size ≤ GO; omega) _, blk_apart h.a.box (by omega), h.a.le.apart (by omega), h.a.be.apart (by omega)⟩, h.od.set j v⟩
theorem PlB.congr {w wr : World} {g GL GB GO n l : Nat} {x y z : Value} {N : Lot.Nd} {q q' : Nat → Int} (h : PlB w wr g GL GB GO n l x y z N q) (e : ∀ i, i < n → q i = q' i) : PlB w wr g GL GB GO n l x y z N q' := ⟨h.a, h.od.congr e⟩
theorem PlB.drew {w wr : World} {g GL GB GO n l : Nat} {x y z : Value} {N : Lot.Nd} {q : Nat → Int} (h : PlB w wr g GL GB GO n l x y z N q) (k : Nat) : PlB w (wr.drewN k) g GL GB GO n l x y z N q :=
  ⟨h.a.keep (below_drewN _ _), h.od.keep (below_drewN _ _)⟩
def mid (N : Lot.Nd) (e f j : Nat) : Nat → Int := fun i => if i = f then fsum N.W f j else if e ≤ i then Lot.pln N N.n i else 0
def aft (N : Lot.Nd) (e : Nat) : Nat → Int := fun i => if e ≤ i then Lot.pln N N.n i else 0
def PlPost (code : Int) (n : Nat) (N : Lot.Nd) (w : World) (e : Ending) (w' : World) : Prop :=
  Below w.heap.size w w' ∧ ((code ≠ 0 ∧ e = .returned (.tuple #[.slice none 0 0, .int .i64 0, .iface 26 (.int .i64 code)])) ∨
    (code = 0 ∧ ∃ G, w.heap.size ≤ G ∧ e = .returned (.tuple #[.slice (some ⟨G, 0, none⟩) n n, .int .i64 (Lot.L N n), .nilIface]) ∧ OwnI w' G n (Lot.pln N n)))

set_option maxHeartbeats 16000000 in
theorem nplan_any (wa : Option Addr) (wn wd : Nat) (oa : Option Addr) (om od : Nat) (ka : Option Addr) (km kd : Nat) (fW fO fK : Nat → Int) (w : World) (hw : IRow w wa wn wd fW) (ho : IRow w oa om od fO) (hk : IRow w ka km kd fK) :
    Calls Tryd.prog 12 #[.agg #[.slice wa wn wd, .slice oa om od, .slice ka km kd]] w (PlPost (ncode wn om km fW fO fK) wn (ndOf wn fW fO fK) w) := by
  have hbx := heap_alloc_new w (.cells #[.slice wa wn wd, .slice oa om od, .slice ka km kd] 24)
  have HB1 := hide (alloc_below w (.cells #[.slice wa wn wd, .slice oa om od, .slice ka km kd] 24))
  obtain ⟨W1, hW1⟩ : ∃ W, w.alloc (.cells #[.slice wa wn wd, .slice oa om od, .slice ka km kd] 24) = W := ⟨_, rfl⟩
  obtain ⟨g, hg⟩ : ∃ g, w.heap.size = g := ⟨_, rfl⟩
  rw [hW1] at HB1 hbx
  rw [hg] at hbx
  obtain ⟨c0, c1, c2⟩ := cells3 hbx
  have HGE : Hid (w.heap.size ≤ g) := Nat.le_of_eq hg
  have HBX := hide hbx
  have hw1 := hw.below (unhide HB1)
  have ho1 := ho.below (unhide HB1)
  have hk1 := hk.below (unhide HB1)
  have C1 := hide (ncheck_any wa wn wd oa om od ka km kd fW fO fK W1 hw1 ho1 hk1)
  have q1 := hw.1
  have q2 := hw.2.1
  have HWR := hide hw
  have HOR := hide ho
  have HKR := hide hk
  clear hw ho hk hw1 ho1 hk1 hbx
  by_cases hcode : ncode wn om km fW fO fK = 0
  case neg =>
    obtain ⟨k, hk⟩ : ∃ k, ncode wn om km fW fO fK = k := ⟨_, rfl⟩
    rw [hk] at C1 hcode ⊢
    rw [errV_not hcode] at C1
    have q5 : (k == 0) = false := by simpa using hcode
    clear hk
    go_enter Tryd.func12, Tryd.ntmps12
    go_wp2_with fail
    refine (unhide C1).mono ?_
    rintro e_ w2 ⟨rfl, hb⟩
    have HB2 := hide (below_step (unhide HB1) hb)
    clear hb
    go_wp2
    go_ret3
    exact ⟨unhide HB2, Or.inl ⟨hcode, rfl⟩⟩
  obtain ⟨e1, e2, hgood⟩ := ncode_zero hcode
  have e1' := e1.symm
  have e2' := e2.symm
  clear e1 e2
  subst e1' e2'
  rw [hcode, errV_zero] at C1
  rw [hcode]
  obtain ⟨N, hN⟩ : ∃ N, ndOf wn fW fO fK = N := ⟨_, rfl⟩
  have hNn : N.n = wn := by rw [← hN]; rfl
  have hNW : N.W = fW := by rw [← hN]; rfl
  have hNO : N.O = fO := by rw [← hN]; rfl
  have hNK : N.K = fK := by rw [← hN]; rfl
  rw [hN] at hgood ⊢
  have HG := hide hgood
  have HNN := hide hNn
  have HWN : Hid (∀ W, Below w.heap.size w W → IRow W wa wn wd N.W ∧ IRow W oa wn od N.O ∧ IRow W ka wn kd N.K) := by
    show ∀ W, _
    intro W hW
    rw [hNW, hNO, hNK]
    exact ⟨(unhide HWR).below hW, (unhide HOR).below hW, (unhide HKR).below hW⟩
  have h50 : (wn : Int) ≤ 50 := by have := hgood.few; omega
  have h50' : wn ≤ 50 := by omega
  obtain ⟨n1, hn1⟩ : ∃ k, wn + 1 = k := ⟨_, rfl⟩
  have f0 : IntKind.i64.wrap ((wn : Int) + 1) = (n1 : Int) := (wrap_is (by omega) (by omega)).trans (by omega)
  have HN1 := hide hn1
  clear hcode hgood hN hNn hNW hNO hNK HWR HOR HKR
  go_enter Tryd.func12, Tryd.ntmps12
  go_wp2_with fail
  refine (unhide C1).mono ?_
  rintro e_ w2 ⟨rfl, hb⟩
  have HB2 := hide (below_step (unhide HB1) hb)
  have HBX2 := hide (blk_keep (unhide HBX) hb)
  clear c0 c1 c2
  obtain ⟨c0, c1, c2⟩ := cells3 (unhide HBX2)
  have mk1 := make_ints n1 (by omega) w2
  have O1 := hide (make_own w2 n1)
  have B1 := hide (alloc_below w2 (.cells (lrow (fun _ => 0) n1).toArray 3))
  have S1 := alloc_size w2 (.cells (lrow (fun _ => 0) n1).toArray 3)
  obtain ⟨W3, hW3⟩ : ∃ W, w2.alloc (.cells (lrow (fun _ => 0) n1).toArray 3) = W := ⟨_, rfl⟩
  rw [hW3] at mk1 O1 B1 S1
  have mk2 := make_ints n1 (by omega) W3
  have O2 := hide (make_own W3 n1)
  have B2 := hide (alloc_below W3 (.cells (lrow (fun _ => 0) n1).toArray 3))
  obtain ⟨W4, hW4⟩ : ∃ W, W3.alloc (.cells (lrow (fun _ => 0) n1).toArray 3) = W := ⟨_, rfl⟩
  rw [hW4] at mk2 O2 B2
  obtain ⟨GL, hGL⟩ : ∃ G, w2.heap.size = G := ⟨_, rfl⟩
  obtain ⟨GB, hGB⟩ : ∃ G, W3.heap.size = G := ⟨_, rfl⟩
  rw [hGL] at mk1 O1 S1
  rw [hGB] at mk2 O2 S1
  have b1 : g < GL := by rw [← hGL]; exact blk_lt (unhide HBX2)
  have b2 : GL < GB := by omega
  have HO : Hid (w.heap.size ≤ g ∧ g < GL ∧ GL < GB) := ⟨unhide HGE, b1, b2⟩
  have HA0 : Hid (PlA w W4 g GL GB n1 (.slice wa wn wd) (.slice oa wn od) (.slice ka wn kd) N 0) :=
    ⟨below_step (below_step (unhide HB2) (unhide B1)) (unhide B2), blk_keep (blk_keep (unhide HBX2) (unhide B1)) (unhide B2), (unhide O1).keep (unhide B2), unhide O2⟩
  clear hb HBX HB1 hW3 hW4 hGL hGB hW1 hg S1 b1 b2 O1 O2 B1 B2 C1 hn1
  go_wp2_with fail
  clear mk1 mk2 c0 c1 c2
  go_loopw [30] (fun vi wr => ∃ m : Nat, vi = .int .i64 (m : Int) ∧ m ≤ wn ∧ PlA w wr g GL GB n1 (.slice wa wn wd) (.slice oa wn od) (.slice ka wn kd) N m) (fun vi _ => wn - (intOf vi).toNat)
  case atStart => exact ⟨0, rfl, Nat.zero_le _, unhide HA0⟩
  case round =>
    obtain ⟨m, rfl, hm, hA⟩ := hrel
    by_cases hlt : m < wn
    · obtain ⟨c0, c1, c2⟩ := cells3 hA.box
      have HA := hide hA
      obtain ⟨r1, r2, r3⟩ := unhide HWN _ hA.bl
      have hNn := unhide HNN
      rw [← hNn] at r1 r2 r3
      have C2 := lastRun_any wa wd oa od ka kd N m (some ⟨GL, 0, none⟩) n1 n1 (fun i => (Lot.tab N m i).1) wr r1 r2 r3 (hA.le.irow (by have := unhide HN1; omega)) (unhide HG) (by omega) (by have := unhide HN1; omega) (fun j hj => by
        show 0 ≤ (Lot.tab N m j).1 ∧ (Lot.tab N m j).1 ≤ _
        rw [Lot.tab_le N m j hj]
        exact Lot.L_nn (unhide HG) (by omega))
      rw [hNn] at C2
      obtain ⟨⟨cs, bs⟩, hsc⟩ : ∃ s, Lot.sc N (fun j => (Lot.tab N m j).1) (m + 1) (m + 1) = s := ⟨_, rfl⟩
      rw [hsc] at C2
      have HC2 := hide C2
      have HSC := hide hsc
      have e2 : (0 : Int) ≤ (m : Int) := by omega
      have e3 : (m : Int) < (wn : Int) := by omega
      have e4 : (m : Int) ≤ 50 := by omega
      obtain ⟨m1, hm1⟩ : ∃ k, m + 1 = k := ⟨_, rfl⟩
      have f1 : IntKind.i64.wrap ((m : Int) + 1) = (m1 : Int) := (wrap_is (by omega) (by omega)).trans (by omega)
      have e5 : (0 : Int) ≤ (m1 : Int) := by omega
      have e6 : (m1 : Int) < (n1 : Int) := by have := unhide HN1; omega
      have HM1 := hide hm1
      have hl1 : m1 < n1 := by have := unhide HN1; omega
      clear r1 r2 r3 C2 hsc hA hNn hm1
      go_wp2_with fail
      refine (unhide HC2).mono ?_
      rintro e_ w3 ⟨rfl, hb⟩
      have HA3 := hide ((unhide HA).keep hb)
      have k0 := (unhide HA3).le.cell hl1
      have k1 := (unhide HA3).le.free m1
      have k2 := ((unhide HA3).be.apart (g := GL) (j := m1) (v := .int .i64 cs) (by have := unhide HO; omega)).cell hl1
      have k3 := ((unhide HA3).be.apart (g := GL) (j := m1) (v := .int .i64 cs) (by have := unhide HO; omega)).free m1
      have HFIN := hide ((unhide HA3).next (unhide HO).1 (unhide HO).2.1 (unhide HO).2.2 (unhide HM1) (unhide HSC))
      clear hb c0 c1 c2 HC2
      go_wp2
      exact ⟨⟨m1, rfl, by have := unhide HM1; omega, unhide HFIN⟩, by have := unhide HM1; simp [intOf]; omega⟩
    · obtain rfl : m = wn := by omega
      have e3 : ¬ (m : Int) < (m : Int) := by omega
      have mk := make_ints m (by omega) wr
      have O1 := hide (make_own wr m)
      have B1 := hide (alloc_below wr (.cells (lrow (fun _ => 0) m).toArray 3))
      obtain ⟨W5, hW5⟩ : ∃ W, wr.alloc (.cells (lrow (fun _ => 0) m).toArray 3) = W := ⟨_, rfl⟩
      rw [hW5] at mk O1 B1
      obtain ⟨GO, hGO⟩ : ∃ G, wr.heap.size = G := ⟨_, rfl⟩
      rw [hGO] at mk O1
      have HO4 : Hid (GB < GO) := by show GB < GO; rw [← hGO]; exact hA.be.lt
      have hNn := unhide HNN
      have HB0 : Hid (PlB w W5 g GL GB GO m n1 (.slice wa m wd) (.slice oa m od) (.slice ka m kd) N (aft N m)) := by
        refine ⟨hA.keep (unhide B1), (unhide O1).congr fun j hj => ?_⟩
        show (0 : Int) = if m ≤ j then _ else 0
        rw [if_neg (by omega)]
      clear hA O1 B1 hW5 hGO HA0
      go_wp2_with fail
      clear mk e3
      go_loopw [11] (fun vi wr => ∃ e : Nat, vi = .int .i64 (e : Int) ∧ Lot.On N e ∧ PlB w wr g GL GB GO m n1 (.slice wa m wd) (.slice oa m od) (.slice ka m kd) N (aft N e)) (fun vi _ => (intOf vi).toNat)
      case atStart => exact ⟨m, rfl, by have := Lot.On.start N; rw [hNn] at this; exact this, unhide HB0⟩
      case round =>
        obtain ⟨e, rfl, hon, hB⟩ := hrel
        have hem : e ≤ m := by rw [← hNn]; exact hon.1
        by_cases he0 : 0 < e
        · obtain ⟨f, hf⟩ : ∃ f, Lot.B N e = f := ⟨_, rfl⟩
          have hfe : f < e := by rw [← hf]; exact Lot.B_lt N he0
          obtain ⟨p1, p2, p3⟩ := hon.next he0
          rw [hf] at p1 p2 p3
          have hen : e < n1 := by have := unhide HN1; omega
          have kb := hB.a.be.cell hen
          have etab : ((Lot.tab N m e).2 : Int) = (f : Int) := by rw [Lot.tab_le N m e hem]; rw [← hf]; rfl
          rw [etab] at kb
          obtain ⟨c0, c1, c2⟩ := cells3 hB.a.box
          obtain ⟨⟨_, _, ww⟩, _, _⟩ := unhide HWN w (Below.refl _ _)
          obtain ⟨bw, pw, rfl, lw, kw⟩ := ww (by omega)
          have HKW : Hid (∀ W, Below w.heap.size w W → ∀ i, i < m → W.cell? ⟨bw, pw + i, none⟩ = some (.int .i64 (N.W i))) := by
            show ∀ W, _
            intro W hW i hi
            rw [hW.cell (p := ⟨bw, pw + i, none⟩) lw]
            exact kw i hi
          have HFB := hide hf
          have HP1 := hide p1
          have HP2 := hide p2
          have HP3 := hide p3
          obtain ⟨d, hd⟩ : ∃ d, e - f = d := ⟨_, rfl⟩
          have e2 : (0 : Int) < (e : Int) := by omega
          have e3 : (e : Int) < (n1 : Int) := by omega
          have e4 : (0 : Int) ≤ (e : Int) := by omega
          have e5 : (0 : Int) ≤ (f : Int) := by omega
          have e6 : (f : Int) ≤ (e : Int) := by omega
          have e7 : (e : Int) ≤ (wd : Int) := by omega
          have e8 : wd ≠ f := by omega
          have e9 : (e : Int) ≤ (m : Int) := by omega
          have hfm : (f : Int) < (m : Int) := by omega
          have HFM : Hid (f < m ∧ e ≤ m ∧ f < e ∧ 0 < e) := ⟨by omega, hem, hfe, he0⟩
          have HB00 : Hid (PlB w wr g GL GB GO m n1 (.slice (some ⟨bw, pw, none⟩) m wd) (.slice oa m od) (.slice ka m kd) N (mid N e f 0)) := by
            refine hB.congr fun i _ => ?_
            unfold mid aft
            by_cases c : i = f
            · rw [if_pos c, if_neg (by omega)]; rfl
            · rw [if_neg c]
          have HD := hide hd
          clear ww kw p1 p2 p3 hB etab hon hem hf lw hNn HB0 hfe he0
          go_wp2_with fail
          go_loopw [68] (fun vi wv => ∃ j : Nat, vi = .int .i64 (j : Int) ∧ j ≤ d ∧ PlB w wv g GL GB GO m n1 (.slice (some ⟨bw, pw, none⟩) m wd) (.slice oa m od) (.slice ka m kd) N (mid N e f j)) (fun vi _ => d - (intOf vi).toNat)
          case atStart => exact ⟨0, rfl, Nat.zero_le _, unhide HB00⟩
          case round =>
            clear c0 c1 c2 kb hd
            obtain ⟨j, rfl, hj, hB⟩ := hrel
            by_cases hjl : j < d
            · have hNn := unhide HNN
              have hd := unhide HD
              have hfm2 := unhide HFM
              have kj := unhide HKW _ hB.a.bl (f + j) (by omega)
              rw [show pw + (f + j) = pw + f + j by omega] at kj
              have ko := hB.od.cell hfm2.1
              have kf := hB.od.free f
              have emid : mid N e f j f = fsum N.W f j := by unfold mid; rw [if_pos rfl]
              rw [emid] at ko
              have gw := (unhide HG).w (f + j) (by omega)
              have gs := fsum_bd (unhide HG) (s := f) j (by omega)
              have esum : fsum N.W f (j + 1) = fsum N.W f j + N.W (f + j) := rfl
              obtain ⟨yw, hyw⟩ : ∃ x, N.W (f + j) = x := ⟨_, rfl⟩
              obtain ⟨ys, hys⟩ : ∃ x, fsum N.W f j = x := ⟨_, rfl⟩
              obtain ⟨yt, hyt⟩ : ∃ x, fsum N.W f (j + 1) = x := ⟨_, rfl⟩
              rw [hyw] at kj gw esum
              rw [hys] at ko gs esum
              rw [hyt] at esum
              have g1 : IntKind.i64.wrap (ys + yw) = yt := (wrap_is (by omega) (by omega)).trans esum.symm
              have g2 : IntKind.i64.wrap ((j : Int) + 1) = (j : Int) + 1 := wrap_is (by omega) (by omega)
              have g3 : (0 : Int) ≤ (j : Int) := by omega
              have g4 : (j : Int) < (d : Int) := by omega
              have HFIN : Hid (PlB w (wr.setCell ⟨GO, f, none⟩ (.int .i64 yt)) g GL GB GO m n1 (.slice (some ⟨bw, pw, none⟩) m wd) (.slice oa m od) (.slice ka m kd) N (mid N e f (j + 1))) := by
                refine (hB.set (unhide HO).1 (unhide HO).2.1 (unhide HO).2.2 (unhide HO4) f yt).congr fun i _ => ?_
                unfold updI mid
                by_cases c : i = f
                · rw [if_pos c, if_pos c, hyt]
                · rw [if_neg c, if_neg c, if_neg c]
              clear hB hyw hys hyt esum gw gs emid hd hNn hfm2
              go_wp2
              exact ⟨⟨j + 1, by go_num, hjl, unhide HFIN⟩, by simp [intOf]; omega⟩
            · obtain rfl : j = d := by omega
              have g4 : ¬ (j : Int) < (j : Int) := by omega
              have hd := unhide HD
              have hfm2 := unhide HFM
              have hNn := unhide HNN
              have HFIN : Hid (PlB w wr g GL GB GO m n1 (.slice (some ⟨bw, pw, none⟩) m wd) (.slice oa m od) (.slice ka m kd) N (aft N f)) := by
                refine hB.congr fun i hi => ?_
                unfold mid aft
                by_cases c : i = f
                · rw [if_pos c, if_pos (by omega), c, unhide HP2, ← fsum_ws N e (e - f) (by omega), show e - (e - f) = f by omega, hd]
                · rw [if_neg c]
                  by_cases c2 : e ≤ i
                  · rw [if_pos c2, if_pos (by omega)]
                  · rw [if_neg c2]
                    by_cases c3 : f ≤ i
                    · rw [if_pos c3, unhide HP3 i (by omega) (by omega)]
                    · rw [if_neg c3]
              have kb := hB.a.be.cell (show e < n1 by omega)
              have etab : ((Lot.tab N m e).2 : Int) = (f : Int) := by rw [Lot.tab_le N m e hfm2.2.1]; exact congrArg Nat.cast (unhide HFB)
              rw [etab] at kb
              clear hB etab hd hfm2 hNn
              go_wp2
              exact ⟨⟨f, rfl, unhide HP1, unhide HFIN⟩, by have := unhide HFM; simp [intOf]; omega⟩
        · obtain rfl : e = 0 := by omega
          have e2 : ¬ (0 : Int) < ((0 : Nat) : Int) := by decide
          have hmn : m < n1 := by have := unhide HN1; omega
          have kl := hB.a.le.cell hmn
          have eL : (Lot.tab N m m).1 = Lot.L N m := rfl
          rw [eL] at kl
          obtain ⟨LL, hLL⟩ : ∃ x, Lot.L N m = x := ⟨_, rfl⟩
          rw [hLL] at kl
          have HLL := hide hLL
          have e3 : (m : Int) < (n1 : Int) := by omega
          have e4 : (0 : Int) ≤ (m : Int) := by omega
          have HFIN : Hid (∀ k, Below w.heap.size w (wr.drewN k) ∧ OwnI (wr.drewN k) GO m (Lot.pln N m)) := by
            show ∀ k, _
            intro k
            refine ⟨(hB.drew k).a.bl, (hB.drew k).od.congr fun i _ => ?_⟩
            unfold aft
            rw [if_pos (Nat.zero_le _), hNn]
          clear hB eL hLL hon hem HB0 hNn
          go_wp2_with fail
          go_quiet (fail)
          go_wp2
          go_ret3
          exact ⟨(unhide HFIN _).1, Or.inr ⟨rfl, GO, by have := unhide HO; have := unhide HO4; omega, by rw [unhide HLL]; rfl, (unhide HFIN _).2⟩⟩
end Go.Proofs.YtbbmhidnakghfaaDoor
