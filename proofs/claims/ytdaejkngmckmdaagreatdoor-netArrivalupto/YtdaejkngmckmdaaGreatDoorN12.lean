/- NetBalances: the law's walk. -/
import Derived.Test.YtdaejkngmckmdaaGreatDoorN11
import Derived.Test.YtdaejkngmckmdaaGreatDoorW25
import Derived.Test.YtdaejkngmckmdaaGreatDoorA14
namespace Go.Proofs.YtdaejkngmckmdaaGreatDoor
open Go.RowKit Go.Sort Go.Shelf

theorem pqs_RSn {w : World} {v : Value} {ps : List (Int × Int)} (h : PairsAre w v ps) : ∀ j, j < (pqs ps).length → RS (pqs ps)[j]! 1 := fun j hj => by
  obtain ⟨a, c, e, h1, h2, h4, h3⟩ := h
  rw [pqs_length] at hj
  have e : (pqs ps)[j]! = pq ps[j]! := by simp [pqs, hj]
  rw [e]
  exact pq_RS (h4 j hj).1 (h4 j hj).2
/-- A row of numbers that is read. -/
def IRow (w : World) (a : Option Addr) (n c : Nat) (f : Nat → Int) : Prop :=
  n ≤ c ∧ c ≤ 9223372036854775807 ∧ (0 < n → ∃ b o, a = some ⟨b, o, none⟩ ∧ b < w.heap.size ∧ ∀ j, j < n → w.cell? ⟨b, o + j, none⟩ = some (.int .i64 (f j)))
theorem smR_of {w : World} {v : Value} {pss : List (List (Int × Int))} {m : Nat} (h : PRowsAre w v pss) (hw : ¬ WideP pss m) (hm : m ≤ 1000) : SmR (pqss pss) := by
  have ht : pss.length + lsum pss pss.length ≤ m := Nat.le_of_not_lt hw
  obtain ⟨a, c, e, h1, h2, h3⟩ := h
  refine ⟨by rw [pqss_length]; omega, fun i hi => ?_, fun i j hi hj => ?_⟩
  · rw [pqss_length] at hi
    rw [pqss_get hi, pqs_length]
    have := lsum_one pss hi
    omega
  · rw [pqss_length] at hi
    rw [pqss_get hi] at hj ⊢
    obtain ⟨b, o, _, _, hc⟩ := h3 (by omega)
    obtain ⟨l, _, hl⟩ := hc i hi
    exact pqs_RSn hl j hj
theorem qsum_ps (qs : List Rat) : ∀ k, qsum qs k = Bth.ps (fun j => qs[j]!) k
  | 0 => rfl
  | k + 1 => by show qsum qs k + _ = Bth.ps _ k + _; rw [qsum_ps qs k]
theorem add4 (a b c d : Rat) : a + b + c + d = a + (b + c + d) := by grind
/-- What comes from the other places. -/
def gIn (Q : Rat) (r m : Nat → Rat) (l : Nat → Nat → Rat) (i k : Nat) : Rat := if k = i then 0 else Q * r k * m k * l k i
/-- The chance with one less at a place. -/
def lessQ (r : Nat → Rat) (p : Nat → Nat) (n i : Nat) : Rat := Net.jk r (Net.one p i (p i - 1)) n
theorem one_back (p : Nat → Nat) (i v : Nat) {u : Nat} (h : p i = u) : Net.one (Net.one p i v) i u = p := by
  funext j
  unfold Net.one
  by_cases e : j = i
  · rw [if_pos e, e, h]
  · rw [if_neg e, if_neg e]
theorem one_get (p : Nat → Nat) (i v : Nat) : Net.one p i v i = v := by unfold Net.one; rw [if_pos rfl]
theorem one_far (p : Nat → Nat) {i v j : Nat} (h : j ≠ i) : Net.one p i v j = p j := by unfold Net.one; rw [if_neg h]
theorem one_le {p : Nat → Nat} {i v m : Nat} (h : ∀ j, p j ≤ m) (hv : v ≤ m) : ∀ j, Net.one p i v j ≤ m := fun j => by
  unfold Net.one
  by_cases e : j = i
  · rw [if_pos e]; exact hv
  · rw [if_neg e]; exact h j
theorem jk_small {r : Nat → Rat} {p : Nat → Nat} {n : Nat} (h : ∀ i, RS (r i) (XB + 1)) (hp : ∀ i, p i ≤ 6) (hn : n ≤ 3) : RS (Net.jk r p n) 100000000 := by
  refine (jk_RS h hp n).mono ?_
  match n, hn with
  | 0, _ => decide
  | 1, _ => decide
  | 2, _ => decide
  | 3, _ => decide

/-- Loads, of so many places. -/
def ldn (x : Nat → Rat) (ss : List Rat) (N i : Nat) : Rat := if i < N then ldf x ss i else 0
/-- What NetBalances holds ahead of its sums. -/
structure NetA (WB wr : World) (b12 gn b14 n c : Nat) (a : Option Addr) (p : Nat → Nat) : Prop where
  bl : Below WB.heap.size WB wr
  c12 : wr.heap[b12]? = some (.cells #[.slice a n c] 26)
  cn : OwnI wr gn n (fun j => ((p j : Nat) : Int))
  c14 : wr.heap[b14]? = some (.cells #[.slice (some ⟨gn, 0, none⟩) n n] 24)
  o1 : WB.heap.size ≤ b12
  o2 : b12 < gn
  o3 : gn < b14
theorem NetA.keep {WB wr w' : World} {b12 gn b14 n c : Nat} {a : Option Addr} {p : Nat → Nat} (h : NetA WB wr b12 gn b14 n c a p) (hb : Below wr.heap.size wr w') : NetA WB w' b12 gn b14 n c a p :=
  ⟨below_step h.bl hb, heap_kept h.c12 hb, h.cn.keep hb, heap_kept h.c14 hb, h.o1, h.o2, h.o3⟩
theorem NetA.setN {WB wr : World} {b12 gn b14 n c : Nat} {a : Option Addr} {p : Nat → Nat} (h : NetA WB wr b12 gn b14 n c a p) (j v : Nat) : NetA WB (wr.setCell ⟨gn, j, none⟩ (.int .i64 (v : Int))) b12 gn b14 n c a (Net.one p j v) := by
  have h1 := h.o1; have h2 := h.o2; have h3 := h.o3
  have far : ∀ g, g ≠ gn → (wr.setCell ⟨gn, j, none⟩ (.int .i64 (v : Int))).heap[g]? = wr.heap[g]? := fun g hg => Below.heap_setCell _ _ _ _ hg
  have ge : WB.heap.size ≤ gn := by omega
  refine ⟨h.bl.setCell ge _, by rw [far _ (by omega)]; exact h.c12, (h.cn.set j (v : Int)).congr (fun i _ => ?_), by rw [far _ (by omega)]; exact h.c14, h1, h2, h3⟩
  unfold updI Net.one
  by_cases e : i = j
  · rw [if_pos e, if_pos e]
  · rw [if_neg e, if_neg e]

set_option maxHeartbeats 8000000 in
set_option maxRecDepth 100000 in
set_option linter.unusedSimpArgs false in
theorem netBalances_any (vi vl vs : Value) (ps : List (Int × Int)) (pss : List (List (Int × Int))) (ms : List (Int × Int)) (np cp : Nat) (ap : Option Addr) (fp : Nat → Int) (w : World) (htab : Tab w) (hi : PairsAre w vi ps) (hl : PRowsAre w vl pss) (sm : SmP pss) (hs : PairsAre w vs ms) (hp : IRow w ap np cp fp) :
    Calls Tryz.prog 3 #[vi, vl, vs, .slice ap np cp] w fun e w' => e = .returned (.bool true) ∧ Below w.heap.size w w' := by
  have KKe : KK = 1099511627776 := rfl
  have HTAB := hide htab
  have HI := hide hi
  have HL := hide hl
  have HS := hide hs
  have HP := hide hp
  have HSM := hide sm
  have HHF : Hid (∀ W, Below w.heap.size w W → Calls Tryz.prog 9 #[] W fun e w' => e = .returned (.bool true) ∧ Below W.heap.size W w') := fun W hW => half_any W (tab_below (unhide HTAB) hW)
  have HWD : Hid (Calls Tryz.prog 5 #[vl, .int .i64 16] w (AskPost w (WideP pss 16))) := wide_any vl pss 16 w hl sm (by omega)
  obtain ⟨ai, ci, rfl, i1, i2, i4, i3⟩ := hi
  obtain ⟨al, cl, rfl, l1, l2, l3⟩ := hl
  obtain ⟨as1, cs1, rfl, s1, s2, s4, s3⟩ := hs
  have ⟨p1, p2, p3⟩ := hp
  have hsl := sm.1
  clear htab i4 i3 l3 s4 s3 p3 sm hp
  go_enter Tryz.func3, Tryz.ntmps3
  go_wp2_with fail
  refine (unhide HWD).mono ?_
  rintro e w1 ⟨(⟨hx, rfl⟩ | ⟨hx, rfl⟩), hb1⟩
  · have HB1 := hide hb1
    clear hx hb1
    go_wp2
    go_ret
    exact ⟨rfl, unhide HB1⟩
  have HW16 := hide hx
  have HB1 := hide hb1
  clear hx hb1 HWD
  by_cases h1 : 3 < ps.length
  · have e1 : (3 : Int) < (ps.length : Int) := by omega
    clear h1
    go_wp2
    go_ret
    exact ⟨rfl, unhide HB1⟩
  have e1 : decide ((3 : Int) < (ps.length : Int)) = false := by rw [decide_eq_false_iff_not]; omega
  by_cases h2 : 3 < ms.length
  · have e2 : (3 : Int) < (ms.length : Int) := by omega
    clear h2
    go_wp2
    go_ret
    exact ⟨rfl, unhide HB1⟩
  have e2 : decide ((3 : Int) < (ms.length : Int)) = false := by rw [decide_eq_false_iff_not]; omega
  by_cases h3 : np = pss.length
  rotate_left
  · have e3 : ((np : Int) == (pss.length : Int)) = false := by rw [beq_eq_false_iff_ne]; omega
    clear h3
    go_wp2
    go_ret
    exact ⟨rfl, unhide HB1⟩
  subst h3
  go_wp2_with fail
  refine (fs_any _ ps w1 ((unhide HI).below (unhide HB1)) (by omega)).mono ?_
  rintro e w2 ⟨v2, rfl, hv2, hb2⟩
  have HV2 := hide hv2
  have HB2 := hide (below_step (unhide HB1) hb2)
  clear hv2 hb2 HB1
  go_wp2_with fail
  refine (prows_any _ pss w2 ((unhide HL).below (unhide HB2)) (unhide HSM)).mono ?_
  rintro e w3 ⟨v3, rfl, hv3, hb3⟩
  have HV3 := hide hv3
  have HV2b := hide ((unhide HV2).below hb3)
  have HB3 := hide (below_step (unhide HB2) hb3)
  clear hv3 hb3 HB2 HV2
  go_wp2_with fail
  refine (fs_any _ ms w3 ((unhide HS).below (unhide HB3)) (by omega)).mono ?_
  rintro e w4 ⟨v4, rfl, hv4, hb4⟩
  have HV4 := hide hv4
  have HV3b := hide ((unhide HV3).below hb4)
  have HV2c := hide ((unhide HV2b).below hb4)
  have HB4 := hide (below_step (unhide HB3) hb4)
  have HSR := hide (smR_of (unhide HL) (unhide HW16) (by omega))
  have HSQ : Hid (SmQ (pqs ps)) := ⟨by rw [pqs_length]; omega, pqs_RSn (unhide HI)⟩
  have HSS : Hid (SmQ (pqs ms)) := ⟨by rw [pqs_length]; omega, pqs_RSn (unhide HS)⟩
  have hqn : (pqs ps).length ≤ 3 := by rw [pqs_length]; omega
  have hpn : (pqss pss).length = pss.length := pqss_length pss
  obtain ⟨qs, hqs⟩ : ∃ qs, pqs ps = qs := ⟨_, rfl⟩
  obtain ⟨ss, hss⟩ : ∃ ss, pqs ms = ss := ⟨_, rfl⟩
  obtain ⟨ks, hks⟩ : ∃ ks, pqss pss = ks := ⟨_, rfl⟩
  rw [hqs] at HV2c HSQ hqn
  rw [hss] at HV4 HSS
  rw [hks] at HV3b HSR hpn
  have HPN := hide hpn
  have HQN := hide hqn
  obtain ⟨N, hN⟩ : ∃ N, pss.length = N := ⟨_, rfl⟩
  have HNE := hide hN
  clear hv4 hb4 HB3 HV3 HV2b hqs hss hks hpn hqn
  go_wp2_with fail
  refine (open_any _ _ _ ks qs ss w4 (unhide HV3b) (unhide HV2c) (unhide HV4) (unhide HSR) (unhide HSQ) (unhide HSS)).mono ?_
  rintro e w5 (⟨hg, hql, hnn, hgs, v5, x, rfl, hv5, hx, hxr, hx1, hb5⟩ | ⟨k, rfl, hb5⟩)
  rotate_left
  · have bA := below_step hb5 (alloc_below w5 (.cells #[.slice none 0 0] 26))
    have hnew := heap_alloc_new w5 (.cells #[.slice none 0 0] 26)
    have HB5 := hide (below_step (unhide HB4) bA)
    obtain ⟨W5, hW5⟩ : ∃ W, w5.alloc (.cells #[.slice none 0 0] 26) = W := ⟨_, rfl⟩
    obtain ⟨b12, hb12⟩ : ∃ g, w5.heap.size = g := ⟨_, rfl⟩
    rw [hW5] at HB5 hnew
    rw [hb12] at hnew
    have HNW := hide hnew
    have HWE := hide hW5
    have HBE := hide hb12
    clear bA hb5 hnew hW5 hb12
    go_wp2_with fail
    rw [unhide HWE, unhide HBE]
    refine (unhide HHF W5 (unhide HB5)).mono ?_
    rintro e w6 ⟨rfl, hb6⟩
    have HB6 := hide (below_step (unhide HB5) hb6)
    have HNW6 := hide (heap_kept (unhide HNW) hb6)
    clear hb6
    go_wp2_with fail
    refine (unhide HHF w6 (unhide HB6)).mono ?_
    rintro e w7 ⟨rfl, hb7⟩
    have HB7 := hide (below_step (unhide HB6) hb7)
    have n7 := heap_kept (unhide HNW6) hb7
    have k7 : w7.cell? ⟨b12, 0, none⟩ = some (.slice none 0 0) := by simp [World.cell?, n7]
    clear hb7 n7
    go_wp2
    go_ret
    exact ⟨rfl, unhide HB7⟩
  obtain ⟨a5, c5, e5, h51, h52, h53⟩ := id hv5
  rw [row_length] at e5
  subst e5
  have hkN : ks.length = N := by have := unhide HPN; omega
  have hn0 : 0 < N := by have := hg.1; omega
  have hn3 : N ≤ 3 := by have := unhide HQN; omega
  have HN0 := hide hn0
  have hrl : ∀ i, i < N → (ks[i]!).length = N := fun i hi => by have := (hg.2.2 i (by omega)).1; omega
  have HKL : Hid (∀ i, i < N → (ks[i]!).length = N) := hrl
  have hv5' : LawIs w5 (.slice a5 N c5) (row (ldn x ss N) N) := by
    have e : row (ldf x ss) ks.length = row (ldn x ss N) N := by rw [hkN]; exact row_congr (fun i hi => by unfold ldn; rw [if_pos hi])
    rw [e, hkN] at hv5
    exact hv5
  have HV5 := hide hv5'
  have HSP : Hid (∀ i, i < N → 0 < bf ss i) := fun i hi => hgs.2 i (by rw [hgs.1]; omega)
  rw [hkN] at hx hx1
  have HSV := hide hx
  have HXN : Hid (∀ i, i < N → 0 ≤ x i) := Net.visits_nn hx (fun i k hi hk => (hg.2.2 i (by omega)).2.1 k (by rw [hrl i hi]; exact hk)) (fun i hi => by
    have a := (hg.2.2 i (by omega)).2.2.2
    rw [qsum_ps, hkN] at a
    exact a) (fun k hk => hnn k (by omega))
  have HR0 : Hid (∀ i, i < N → 0 ≤ ldn x ss N i) := fun i hi => by
    unfold ldn ldf
    rw [if_pos hi]
    exact Bth.div_nn (unhide HXN i hi) (unhide HSP i hi)
  have HR1 : Hid (∀ i, i < N → ldn x ss N i < 1) := fun i hi => by
    unfold ldn
    rw [if_pos hi]
    exact hx1 i hi
  have HRR : Hid (∀ i, RS (ldn x ss N i) (XB + 1)) := fun i => by
    unfold ldn ldf
    by_cases e : i < N
    · rw [if_pos e]
      exact (hxr i).div' ((unhide HSS).2 i (by rw [hgs.1]; omega)) (fun z => by have p := unhide HSP i e; unfold bf at p; rw [Rat.num_eq_zero.1 z] at p; exact absurd p (by decide))
    · rw [if_neg e]; exact RS.zero.mono (by omega)
  have HTRF : Hid (∀ k, k < N → x k = bf qs k + Bth.ps (fun i => lf ks i k * x i) N) := fun k hk => Net.traffic hx.1 hk
  have HRM : Hid (∀ k, k < N → ldn x ss N k * bf ss k = x k) := fun k hk => by
    unfold ldn ldf
    rw [if_pos hk]
    exact Lin.div_mul_self (Bth.ne_of_pos (unhide HSP k hk))
  have HRA : Hid (∀ i, i < N → RS (bf qs i) 1) := fun i hi => (unhide HSQ).2 i (by omega)
  have HRS : Hid (∀ i, i < N → RS (bf ss i) 1) := fun i hi => (unhide HSS).2 i (by rw [hgs.1]; omega)
  have HRL : Hid (∀ i k, i < N → k < N → RS (lf ks i k) 1) := fun i k hi hk => (unhide HSR).2.2 i k (by omega) (by rw [hrl i hi]; exact hk)
  have LA := (unhide HV2c).below hb5
  obtain ⟨a2, c2, e2', a21, a22, a23⟩ := id (unhide HV2c)
  subst e2'
  obtain ⟨ba, oa, ea, rda⟩ := law_reads LA (by omega)
  subst ea
  have LM := (unhide HV4).below hb5
  obtain ⟨a4, c4, e4', a41, a42, a43⟩ := id (unhide HV4)
  subst e4'
  obtain ⟨bm, om, em, rdm⟩ := law_reads LM (by rw [hgs.1]; omega)
  subst em
  have LR := (unhide HV3b).below hb5
  obtain ⟨a3, c3, e3', a31, a32, a33⟩ := id (unhide HV3b)
  subst e3'
  obtain ⟨bR, oR, eR, rdr⟩ := rows_reads LR (by omega) (fun k hk => by rw [hrl k (by omega), hkN])
  subst eR
  rw [hkN] at rdr
  have HDA : Hid (∀ j, j < N → ∃ t : Tri, ∀ W, Below w5.heap.size w5 W → (W.cell? ⟨ba, oa + j * 3, none⟩ = some (.bool t.s) ∧ W.cell? ⟨ba, oa + j * 3 + 1, none⟩ = some (.slice t.a1 t.n1 t.c1) ∧ W.cell? ⟨ba, oa + j * 3 + 2, none⟩ = some (.slice t.a2 t.n2 t.c2)) ∧ RatIs W t.val (bf qs j)) := fun j hj => rda j (by omega)
  have HDM : Hid (∀ j, j < N → ∃ t : Tri, ∀ W, Below w5.heap.size w5 W → (W.cell? ⟨bm, om + j * 3, none⟩ = some (.bool t.s) ∧ W.cell? ⟨bm, om + j * 3 + 1, none⟩ = some (.slice t.a1 t.n1 t.c1) ∧ W.cell? ⟨bm, om + j * 3 + 2, none⟩ = some (.slice t.a2 t.n2 t.c2)) ∧ RatIs W t.val (bf ss j)) := fun j hj => rdm j (by rw [hgs.1]; omega)
  have HDR := hide rdr
  have hq3 : qs.length = N := by omega
  have hs3 : ss.length = N := by rw [hgs.1]; omega
  rw [hq3, hs3, hkN]
  obtain ⟨bp, op, eap, hbp, hcp⟩ := (unhide HP).2.2 (by have := unhide HNE; omega)
  subst eap
  have HCP : Hid (∀ W, Below w5.heap.size w5 W → ∀ j, j < N → W.cell? ⟨bp, op + j, none⟩ = some (.int .i64 (fp j))) := fun W hW j hj => by
    have bw := below_step (below_step (unhide HB4) hb5) hW
    rw [bw.cell (p := ⟨bp, op + j, none⟩) hbp]
    exact hcp j (by have := unhide HNE; omega)
  have HB5 := hide (below_step (unhide HB4) hb5)
  have bA := alloc_below w5 (.cells #[.slice a5 N c5] 26)
  have hnew := heap_alloc_new w5 (.cells #[.slice a5 N c5] 26)
  obtain ⟨W6, hW6⟩ : ∃ W, w5.alloc (.cells #[.slice a5 N c5] 26) = W := ⟨_, rfl⟩
  obtain ⟨b12, hb12⟩ : ∃ g, w5.heap.size = g := ⟨_, rfl⟩
  rw [hW6] at bA hnew
  rw [hb12] at hnew
  have HB6 := hide bA
  have HC12 := hide hnew
  have HGE : Hid (w5.heap.size ≤ b12) := by show _ ≤ _; omega
  have HE1 := hide e1
  have HE2 := hide e2
  clear hg hql hnn hgs hv5 hx hxr hx1 hb5 h51 h52 h53 hv5' hrl LA LM LR rda rdm rdr a21 a22 a23 a41 a42 a43 a31 a32 a33 bA hnew hkN hq3 hs3 hbp hcp HV2c HV4 HV3b HB4 HPN HQN hN e1 e2 h1 h2
  go_wp2_with fail
  clear hW6 hb12
  refine (unhide HHF W6 (below_step (unhide HB5) (unhide HB6))).mono ?_
  rintro e w7 ⟨rfl, hb7⟩
  have HB7 := hide (below_step (unhide HB6) hb7)
  have HC12b := hide (heap_kept (unhide HC12) hb7)
  clear hb7 HB6
  have qmk := make_ints N (by omega) w7
  have hown := make_own w7 N
  have bI := alloc_below w7 (.cells (lrow (fun _ => 0) N).toArray 3)
  have c12b := heap_kept (unhide HC12b) bI
  have hlt12 : b12 < w7.heap.size := (Array.getElem?_eq_some_iff.1 (unhide HC12b)).1
  obtain ⟨W8, hW8⟩ : ∃ W, w7.alloc (.cells (lrow (fun _ => 0) N).toArray 3) = W := ⟨_, rfl⟩
  have hsz : W8.heap.size = w7.heap.size + 1 := by rw [← hW8]; exact alloc_size _ _
  obtain ⟨gn, hgn⟩ : ∃ g, w7.heap.size = g := ⟨_, rfl⟩
  rw [hW8, hgn] at qmk hown
  rw [hW8] at bI c12b
  rw [hgn] at hlt12 hsz
  have bJ := alloc_below W8 (.cells #[.slice (some ⟨gn, 0, none⟩) N N] 24)
  have c14 := heap_alloc_new W8 (.cells #[.slice (some ⟨gn, 0, none⟩) N N] 24)
  have hown9 := hown.keep bJ
  have c12c := heap_kept c12b bJ
  have HB9 := hide (below_step (below_step (unhide HB7) bI) bJ)
  obtain ⟨W9, hW9⟩ : ∃ W, W8.alloc (.cells #[.slice (some ⟨gn, 0, none⟩) N N] 24) = W := ⟨_, rfl⟩
  obtain ⟨b14, hb14⟩ : ∃ g, W8.heap.size = g := ⟨_, rfl⟩
  rw [hW9] at c14 hown9 c12c HB9
  rw [hb14] at c14 hsz
  have NA0 : NetA w5 W9 b12 gn b14 N c5 a5 (fun _ => 0) := ⟨unhide HB9, c12c, hown9, c14, unhide HGE, hlt12, by omega⟩
  have HNA0 := hide NA0
  have HSZ := hide hsz
  have HGN := hide hgn
  clear hown bI bJ c14 hown9 c12b c12c hlt12 NA0 hsz HB7 HC12 HC12b HB9 hgn
  go_wp2_with fail
  clear hW8 hW9 hb14 qmk
  go_loopw [15] (fun vi wr => ∃ (i : Nat) (p : Nat → Nat), vi = .int .i64 (i : Int) ∧ i ≤ N ∧ (∀ j, p j ≤ 4) ∧ NetA w5 wr b12 gn b14 N c5 a5 p) (fun vi _ => N - (intOf vi).toNat)
  case atStart => exact ⟨0, _, rfl, Nat.zero_le _, fun _ => Nat.zero_le _, unhide HNA0⟩
  case round =>
    obtain ⟨i, p, rfl, hi, hp4, hA⟩ := hrel
    clear HNA0
    have HA := hide hA
    have HP4 := hide hp4
    by_cases hlt : i < N
    · have k14 : wr.cell? ⟨b14, 0, none⟩ = some (.slice (some ⟨gn, 0, none⟩) N N) := by simp [World.cell?, hA.c14]
      have kl14 := (Array.getElem?_eq_some_iff.1 hA.c14).1
      have HCC : Hid (∀ W, Below wr.heap.size wr W → (fun w' : World => w'.cell? ⟨b14, 0, none⟩ = some (.slice (some ⟨gn, 0, none⟩) N N) ∧ w'.cell? ⟨bp, op + i, none⟩ = some (.int .i64 (fp i))) W) := fun W hW => ⟨by rw [hW.cell (p := ⟨b14, 0, none⟩) kl14]; exact k14, unhide HCP W (below_step (unhide HA).bl hW) i hlt⟩
      have HPK : Hid (∀ W, Calls Tryz.prog 10 #[.int .i64 (fp i), .int .i64 5] W fun e w' => ∃ k : Nat, e = .returned (.int .i64 (k : Int)) ∧ k < 5 ∧ Below W.heap.size W w') := fun W => (pick_any (fp i) 5 (by omega) (by omega) W).mono (by
        rintro e w' ⟨k, rfl, h, rfl⟩
        exact ⟨k, rfl, h, Below.refl _ _⟩)
      have e7 : (i : Int) < (N : Int) := by omega
      have e8 : (0 : Int) ≤ (i : Int) := by omega
      clear hA hp4 k14 kl14
      go_wp2_with fail
      refine wp_region_till (fun w' : World => w'.cell? ⟨b14, 0, none⟩ = some (.slice (some ⟨gn, 0, none⟩) N N) ∧ w'.cell? ⟨bp, op + i, none⟩ = some (.int .i64 (fp i))) 8 (by kernel_rfl) ?_
      have bd0 : Below wr.heap.size wr wr.drew := (Below.refl _ _).drew
      have hC0 : (fun w' : World => w'.cell? ⟨b14, 0, none⟩ = some (.slice (some ⟨gn, 0, none⟩) N N) ∧ w'.cell? ⟨bp, op + i, none⟩ = some (.int .i64 (fp i))) wr.drew := unhide HCC _ bd0
      refine wpTill_take (i := 0) (v := ?_) rfl (by kernel_rfl) (by kernel_rfl) (by kernel_rfl) (by kernel_rfl) (by kernel_rfl) (by kernel_rfl) (fun _ _ _ h => h) (Or.inl ⟨by rfl, ?_⟩) hC0 ?_
      rotate_left
      · intro w hSw; (try dsimp only at hSw); obtain ⟨z0, z1⟩ := hSw; go_simp; (try with_reducible rfl)
      (try simp only [List.getElem_toArray, List.getElem_cons_succ, List.getElem_cons_zero])
      (try simp only [Act.put, List.setIfInBounds_toArray, List.set_cons_zero, List.set_cons_succ])
      refine wpTill_pure (i := 1) (v := ?_) rfl (by kernel_rfl) (by kernel_rfl) (by kernel_rfl) (by kernel_rfl) (fun _ _ _ h => h) (Or.inl ⟨by rfl, ?_⟩) (fun _ => hC0) ?_
      rotate_left
      · intro w hSw; clear hSw; go_simp; (try with_reducible rfl)
      (try simp only [List.getElem_toArray, List.getElem_cons_succ, List.getElem_cons_zero])
      (try simp only [Act.put, List.setIfInBounds_toArray, List.set_cons_zero, List.set_cons_succ])
      refine wpTill_pure (i := 2) (v := ?_) rfl (by kernel_rfl) (by kernel_rfl) (by kernel_rfl) (by kernel_rfl) (fun _ _ _ h => h) (Or.inl ⟨by rfl, ?_⟩) (fun _ => hC0) ?_
      rotate_left
      · intro w hSw; clear hSw; go_simp; (try with_reducible rfl)
      (try simp only [List.getElem_toArray, List.getElem_cons_succ, List.getElem_cons_zero])
      (try simp only [Act.put, List.setIfInBounds_toArray, List.set_cons_zero, List.set_cons_succ])
      refine wpTill_pure (i := 3) (v := ?_) rfl (by kernel_rfl) (by kernel_rfl) (by kernel_rfl) (by kernel_rfl) (fun _ _ _ h => h) (Or.inl ⟨by rfl, ?_⟩) (fun _ => hC0) ?_
      rotate_left
      · intro w hSw; clear hSw; go_simp; (try with_reducible rfl)
      (try simp only [List.getElem_toArray, List.getElem_cons_succ, List.getElem_cons_zero])
      (try simp only [Act.put, List.setIfInBounds_toArray, List.set_cons_zero, List.set_cons_succ])
      refine wpTill_pure (i := 4) (v := ?_) rfl (by kernel_rfl) (by kernel_rfl) (by kernel_rfl) (by kernel_rfl) (fun _ _ _ h => h) (Or.inl ⟨by rfl, ?_⟩) (fun _ => hC0) ?_
      rotate_left
      · intro w hSw; clear hSw; go_simp; (try with_reducible rfl)
      (try simp only [List.getElem_toArray, List.getElem_cons_succ, List.getElem_cons_zero])
      (try simp only [Act.put, List.setIfInBounds_toArray, List.set_cons_zero, List.set_cons_succ])
      refine wpTill_take (i := 5) (v := ?_) rfl (by kernel_rfl) (by kernel_rfl) (by kernel_rfl) (by kernel_rfl) (by kernel_rfl) (by kernel_rfl) (fun _ _ _ h => h) (Or.inl ⟨by rfl, ?_⟩) hC0 ?_
      rotate_left
      · intro w hSw; (try dsimp only at hSw); obtain ⟨z0, z1⟩ := hSw; go_simp; (try with_reducible rfl)
      (try simp only [List.getElem_toArray, List.getElem_cons_succ, List.getElem_cons_zero])
      (try simp only [Act.put, List.setIfInBounds_toArray, List.set_cons_zero, List.set_cons_succ])
      refine wpTill_one (k := 6) (by kernel_rfl) rfl (fun K hK => ?_)
      (try simp only [List.getElem_toArray, List.getElem_cons_succ, List.getElem_cons_zero])
      go_simp
      refine (unhide HPK _).mono ?_
      rintro e xw_1 ⟨kk, rfl, hkk, hb_1⟩
      have cc_1 := below_step bd0 hb_1
      have hC_1 : (fun w' : World => w'.cell? ⟨b14, 0, none⟩ = some (.slice (some ⟨gn, 0, none⟩) N N) ∧ w'.cell? ⟨bp, op + i, none⟩ = some (.int .i64 (fp i))) xw_1 := unhide HCC _ cc_1
      refine hK.out _ _ (fun _ => hC_1) ?_
      clear hK K
      (try simp only [Act.put, List.setIfInBounds_toArray, List.set_cons_zero, List.set_cons_succ])
      refine wpTill_pure (i := 7) (v := ?_) rfl (by kernel_rfl) (by kernel_rfl) (by kernel_rfl) (by kernel_rfl) (fun _ _ _ h => h) (Or.inl ⟨by rfl, ?_⟩) (fun _ => hC_1) ?_
      rotate_left
      · intro w hSw; clear hSw; go_simp; (try with_reducible rfl)
      (try simp only [List.getElem_toArray, List.getElem_cons_succ, List.getElem_cons_zero])
      (try simp only [Act.put, List.setIfInBounds_toArray, List.set_cons_zero, List.set_cons_succ])
      have S8 := (unhide HA).keep cc_1
      have y0 := S8.cn.cell hlt
      have l0 := S8.cn.free i
      have FN := S8.setN i kk
      obtain ⟨Wf, hWf⟩ : ∃ W, xw_1.setCell ⟨gn, i, none⟩ (.int .i64 (kk : Int)) = W := ⟨_, rfl⟩
      rw [hWf] at FN
      have HFN := hide FN
      clear S8 FN hb_1
      refine wpTill_one (k := 8) (by kernel_rfl) rfl (fun K hK => ?_)
      (try simp only [List.getElem_toArray, List.getElem_cons_succ, List.getElem_cons_zero])
      go_simp
      refine hK.out _ _ (fun h => absurd (h.symm.trans (by kernel_rfl)) Bool.false_ne_true) ?_
      clear hK K
      (try simp only [Act.put, List.setIfInBounds_toArray, List.set_cons_zero, List.set_cons_succ])
      refine wpTill_done (by kernel_rfl) ?_ _
      clear l0 y0 hWf hC0 hC_1 cc_1 bd0 HCC HPK HA
      go_wp2_with fail
      exact ⟨⟨i + 1, _, by go_num, hlt, one_le (unhide HP4) (by omega), unhide HFN⟩, by simp [intOf]; omega⟩
    · obtain rfl : N = i := by omega
      have e7 : ¬ (N : Int) < (N : Int) := by omega
      have bT := alloc_below wr (.cells #[.bool true] 4)
      have c16 := heap_alloc_new wr (.cells #[.bool true] 4)
      have A1 := hA.keep bT
      have hl16 : b14 < wr.heap.size := (Array.getElem?_eq_some_iff.1 hA.c14).1
      obtain ⟨W1, hW1⟩ : ∃ W, wr.alloc (.cells #[.bool true] 4) = W := ⟨_, rfl⟩
      obtain ⟨b16, hb16⟩ : ∃ g, wr.heap.size = g := ⟨_, rfl⟩
      rw [hW1] at c16 A1
      rw [hb16] at c16 hl16
      have HA1 := hide A1
      have HC16 := hide c16
      have HL16 := hide hl16
      clear hA hp4 HA bT c16 A1 hl16
      go_wp2_with fail
      (try simp only [Exit.inBlock, Exit.then])
      (try go_wp2_with fail)
      clear hW1 hb16
      refine (whole_any 0 (by decide) (by decide) W1).mono ?_
      rintro e wa ⟨va, rfl, hva, hba⟩
      have HA2 := hide ((unhide HA1).keep hba)
      have HC16a := hide (heap_kept (unhide HC16) hba)
      have HVA := hide hva
      clear hva hba HA1 HC16
      go_wp2_with fail
      refine (whole_any 0 (by decide) (by decide) wa).mono ?_
      rintro e wb ⟨vb, rfl, hvb, hbb⟩
      obtain ⟨ta0, rfl, hta⟩ := tri_of ((unhide HVA).below hbb)
      obtain ⟨tb0, rfl, htb⟩ := tri_of hvb
      simp only [Tri.val]
      have A3 := (unhide HA2).keep hbb
      have c16b := heap_kept (unhide HC16a) hbb
      have l16 : b16 < wb.heap.size := (Array.getElem?_eq_some_iff.1 c16b).1
      have bX := alloc_below wb (.cells #[.bool ta0.s, .slice ta0.a1 ta0.n1 ta0.c1, .slice ta0.a2 ta0.n2 ta0.c2] 39)
      have bY := alloc_below (wb.alloc (.cells #[.bool ta0.s, .slice ta0.a1 ta0.n1 ta0.c1, .slice ta0.a2 ta0.n2 ta0.c2] 39)) (.cells #[.bool tb0.s, .slice tb0.a1 tb0.n1 tb0.c1, .slice tb0.a2 tb0.n2 tb0.c2] 39)
      have bXY := below_step bX bY
      have X18 := (BoxIs.new hta).keep bY
      have X19 := BoxIs.new (htb.below bX)
      rw [alloc_size] at X19
      have A4 := A3.keep bXY
      have c16c := heap_kept c16b bXY
      obtain ⟨W2, hW2⟩ : ∃ W, (wb.alloc (.cells #[.bool ta0.s, .slice ta0.a1 ta0.n1 ta0.c1, .slice ta0.a2 ta0.n2 ta0.c2] 39)).alloc (.cells #[.bool tb0.s, .slice tb0.a1 tb0.n1 tb0.c1, .slice tb0.a2 tb0.n2 tb0.c2] 39) = W := ⟨_, rfl⟩
      obtain ⟨b18, hb18⟩ : ∃ b, wb.heap.size = b := ⟨_, rfl⟩
      obtain ⟨b19, hb19⟩ : ∃ b, b18 + 1 = b := ⟨_, rfl⟩
      rw [hW2] at X18 X19 A4 c16c
      rw [hb18] at X18 X19 l16
      rw [hb19] at X19
      have HX18 := hide X18
      have HX19 := hide X19
      have HA4 := hide A4
      have HC16c := hide c16c
      have HL18 := hide l16
      have HB18 := hide hb18
      have HB19 := hide hb19
      have HCL := hide (pcall_any b12 b14 b16 gn N c5 a5 (ldn x ss N) p W2 A4.c12 A4.c14 c16c ((unhide HV5).below A4.bl) ⟨A4.cn.lt, fun j hj => A4.cn.cell hj⟩ (unhide HN0) (by omega) (unhide HR0) (unhide HR1) (fun j => by have := unhide HP4 j; omega) (unhide HRR))
      clear hvb hbb hta htb A3 c16b l16 bX bY bXY X18 X19 A4 c16c hb18 hb19 HA2 HC16a HVA
      go_wp2_with fail
      rw [unhide HB18, unhide HB19]
      clear hW2
      refine (unhide HCL).mono ?_
      rintro e wc ⟨vc, rfl, hvc, hbc⟩
      obtain ⟨th, rfl, hth⟩ := tri_of hvc
      simp only [Tri.val]
      have X20 := BoxIs.new hth
      have bZ := below_step hbc (alloc_below wc (.cells #[.bool th.s, .slice th.a1 th.n1 th.c1, .slice th.a2 th.n2 th.c2] 39))
      have A5 := (unhide HA4).keep bZ
      have c16d := heap_kept (unhide HC16c) bZ
      have X18b := (unhide HX18).keep bZ
      have X19b := (unhide HX19).keep bZ
      have l20 : b19 < wc.heap.size := Nat.lt_of_lt_of_le (unhide HX19).lt hbc.size
      obtain ⟨W3, hW3⟩ : ∃ W, wc.alloc (.cells #[.bool th.s, .slice th.a1 th.n1 th.c1, .slice th.a2 th.n2 th.c2] 39) = W := ⟨_, rfl⟩
      obtain ⟨b20, hb20⟩ : ∃ g, wc.heap.size = g := ⟨_, rfl⟩
      rw [hW3] at X20 A5 c16d X18b X19b
      rw [hb20] at X20 l20
      obtain ⟨P, hP⟩ : ∃ P, Net.jk (ldn x ss N) p N = P := ⟨_, rfl⟩
      rw [hP] at X20
      have NS0 : NetS w5 W3 b12 gn b14 b16 b18 b19 b20 N c5 a5 p ta0 tb0 th ((0 : Int) : Rat) ((0 : Int) : Rat) P := ⟨A5.bl, A5.c12, A5.cn, A5.c14, c16d, X18b, X19b, X20, A5.o1, A5.o2, A5.o3, unhide HL16, unhide HL18, by have := unhide HB19; omega, l20⟩
      have HNS0 := hide NS0
      have HPE := hide hP
      have HPR : Hid (RS P 100000000) := by rw [← hP]; exact jk_small (unhide HRR) (fun j => by have := unhide HP4 j; omega) hn3
      obtain ⟨FO, hFO⟩ : ∃ F, Net.flowOut (bf qs) (bf ss) (lf ks) p P = F := ⟨_, rfl⟩
      obtain ⟨FI, hFI⟩ : ∃ F, Net.flowIn N (bf qs) (bf ss) (lf ks) (ldn x ss N) p P (lessQ (ldn x ss N) p N) = F := ⟨_, rfl⟩
      have HFO := hide hFO
      have HFI := hide hFI
      clear hvc hbc hth X20 bZ A5 c16d X18b X19b l20 NS0 hP hFO hFI HA4 HC16c HX18 HX19 HCL
      go_wp2_with fail
      clear hW3 hb20
      go_loopw [21] (fun vi wr => ∃ (i : Nat) (t1 t2 : Tri), vi = .int .i64 (i : Int) ∧ i ≤ N ∧ NetS w5 wr b12 gn b14 b16 b18 b19 b20 N c5 a5 p t1 t2 th (Bth.ps FO i) (Bth.ps FI i) P ∧ RS (Bth.ps FO i) (i * 1000000000 + 1) ∧ RS (Bth.ps FI i) (i * 1000000000 + 1)) (fun vi _ => N - (intOf vi).toNat)
      case atStart => exact ⟨0, _, _, rfl, Nat.zero_le _, unhide HNS0, RS.zero, RS.zero⟩
      case round =>
        obtain ⟨i, t1, t2, rfl, hi, hS, hro, hri⟩ := hrel
        clear HNS0
        have HS1 := hide hS
        have HRO := hide hro
        have HRI := hide hri
        have k14 := hS.k14
        by_cases hlt : i < N
        · have HDEV := hide hlt
          obtain ⟨ta, hta⟩ := unhide HDA i hlt
          obtain ⟨tm, htm⟩ := unhide HDM i hlt
          obtain ⟨bI, oI, cI, hhd, hrd⟩ := unhide HDR i hlt
          obtain ⟨tii, htii⟩ := hrd i hlt
          have HTA := hide hta
          have HTM := hide htm
          have HHD := hide hhd
          have HTII : Hid (∀ W, Below w5.heap.size w5 W → (W.cell? ⟨bI, oI + i * 3, none⟩ = some (.bool tii.s) ∧ W.cell? ⟨bI, oI + i * 3 + 1, none⟩ = some (.slice tii.a1 tii.n1 tii.c1) ∧ W.cell? ⟨bI, oI + i * 3 + 2, none⟩ = some (.slice tii.a2 tii.n2 tii.c2)) ∧ RatIs W tii.val (lf ks i i)) := htii
          have e7 : (i : Int) < (N : Int) := by omega
          have e8 : (0 : Int) ≤ (i : Int) := by omega
          clear hta htm hhd hrd htii hS hro hri
          have HMU : Hid (∀ W, Below wr.heap.size wr W → Calls Tryz.prog 15 #[.agg #[.bool th.s, .slice th.a1 th.n1 th.c1, .slice th.a2 th.n2 th.c2], .agg #[.bool ta.s, .slice ta.a1 ta.n1 ta.c1, .slice ta.a2 ta.n2 ta.c2]] W fun e w' => ∃ v, e = .returned v ∧ RatIs w' v (P * bf qs i) ∧ Below W.heap.size W w') := fun W hW => mulR_any th.val ta.val _ _ W ((unhide HS1).x20.2.below hW) (unhide HTA W (below_step (unhide HS1).bl hW)).2 6000000000 ((unhide HPR).mono (by omega)) ((unhide HRA i hlt).mono (by omega)) (by rw [KKe]; omega)
          have HAD : Hid (∀ W v2, Below wr.heap.size wr W → RatIs W v2 (P * bf qs i) → Calls Tryz.prog 14 #[.agg #[.bool t1.s, .slice t1.a1 t1.n1 t1.c1, .slice t1.a2 t1.n2 t1.c2], v2] W fun e w' => ∃ v, e = .returned v ∧ RatIs w' v (Bth.ps FO i + P * bf qs i) ∧ Below W.heap.size W w') := fun W v2 hW hv2 => addR_any t1.val v2 _ _ W ((unhide HS1).x18.2.below hW) hv2 6000000000 ((unhide HRO).mono (by omega)) (((unhide HPR).mul (unhide HRA i hlt)).mono (by omega)) (by rw [KKe]; omega)
          have HCC : Hid (∀ W, Below wr.heap.size wr W → (fun w' : World => (w'.cell? ⟨b18, 0, none⟩ = some (.bool t1.s) ∧ w'.cell? ⟨b18, 1, none⟩ = some (.slice t1.a1 t1.n1 t1.c1) ∧ w'.cell? ⟨b18, 2, none⟩ = some (.slice t1.a2 t1.n2 t1.c2)) ∧ (w'.cell? ⟨b20, 0, none⟩ = some (.bool th.s) ∧ w'.cell? ⟨b20, 1, none⟩ = some (.slice th.a1 th.n1 th.c1) ∧ w'.cell? ⟨b20, 2, none⟩ = some (.slice th.a2 th.n2 th.c2)) ∧ (w'.cell? ⟨ba, oa + i * 3, none⟩ = some (.bool ta.s) ∧ w'.cell? ⟨ba, oa + i * 3 + 1, none⟩ = some (.slice ta.a1 ta.n1 ta.c1) ∧ w'.cell? ⟨ba, oa + i * 3 + 2, none⟩ = some (.slice ta.a2 ta.n2 ta.c2))) W) := fun W hW => by
            have bc := below_step (unhide HS1).bl hW
            exact ⟨(unhide HS1).x18.cells W hW, (unhide HS1).x20.cells W hW, (unhide HTA W bc).1⟩
          go_wp2_with fail
          refine wp_region_till (fun w' : World => (w'.cell? ⟨b18, 0, none⟩ = some (.bool t1.s) ∧ w'.cell? ⟨b18, 1, none⟩ = some (.slice t1.a1 t1.n1 t1.c1) ∧ w'.cell? ⟨b18, 2, none⟩ = some (.slice t1.a2 t1.n2 t1.c2)) ∧ (w'.cell? ⟨b20, 0, none⟩ = some (.bool th.s) ∧ w'.cell? ⟨b20, 1, none⟩ = some (.slice th.a1 th.n1 th.c1) ∧ w'.cell? ⟨b20, 2, none⟩ = some (.slice th.a2 th.n2 th.c2)) ∧ (w'.cell? ⟨ba, oa + i * 3, none⟩ = some (.bool ta.s) ∧ w'.cell? ⟨ba, oa + i * 3 + 1, none⟩ = some (.slice ta.a1 ta.n1 ta.c1) ∧ w'.cell? ⟨ba, oa + i * 3 + 2, none⟩ = some (.slice ta.a2 ta.n2 ta.c2))) 8 (by kernel_rfl) ?_
          have bd0 : Below wr.heap.size wr wr.drew := (Below.refl _ _).drew
          have hC0 : (fun w' : World => (w'.cell? ⟨b18, 0, none⟩ = some (.bool t1.s) ∧ w'.cell? ⟨b18, 1, none⟩ = some (.slice t1.a1 t1.n1 t1.c1) ∧ w'.cell? ⟨b18, 2, none⟩ = some (.slice t1.a2 t1.n2 t1.c2)) ∧ (w'.cell? ⟨b20, 0, none⟩ = some (.bool th.s) ∧ w'.cell? ⟨b20, 1, none⟩ = some (.slice th.a1 th.n1 th.c1) ∧ w'.cell? ⟨b20, 2, none⟩ = some (.slice th.a2 th.n2 th.c2)) ∧ (w'.cell? ⟨ba, oa + i * 3, none⟩ = some (.bool ta.s) ∧ w'.cell? ⟨ba, oa + i * 3 + 1, none⟩ = some (.slice ta.a1 ta.n1 ta.c1) ∧ w'.cell? ⟨ba, oa + i * 3 + 2, none⟩ = some (.slice ta.a2 ta.n2 ta.c2))) wr.drew := unhide HCC _ bd0
          refine wpTill_take (i := 0) (v := ?_) rfl (by kernel_rfl) (by kernel_rfl) (by kernel_rfl) (by kernel_rfl) (by kernel_rfl) (by kernel_rfl) (fun _ _ _ h => h) (Or.inl ⟨by rfl, ?_⟩) hC0 ?_
          rotate_left
          · intro w hSw; (try dsimp only at hSw); obtain ⟨⟨z0, z1, z2⟩, ⟨z3, z4, z5⟩, z6, z7, z8⟩ := hSw; go_simp; (try with_reducible rfl)
          (try simp only [List.getElem_toArray, List.getElem_cons_succ, List.getElem_cons_zero])
          (try simp only [Act.put, List.setIfInBounds_toArray, List.set_cons_zero, List.set_cons_succ])
          refine wpTill_take (i := 1) (v := ?_) rfl (by kernel_rfl) (by kernel_rfl) (by kernel_rfl) (by kernel_rfl) (by kernel_rfl) (by kernel_rfl) (fun _ _ _ h => h) (Or.inl ⟨by rfl, ?_⟩) hC0 ?_
          rotate_left
          · intro w hSw; (try dsimp only at hSw); obtain ⟨⟨z0, z1, z2⟩, ⟨z3, z4, z5⟩, z6, z7, z8⟩ := hSw; go_simp; (try with_reducible rfl)
          (try simp only [List.getElem_toArray, List.getElem_cons_succ, List.getElem_cons_zero])
          (try simp only [Act.put, List.setIfInBounds_toArray, List.set_cons_zero, List.set_cons_succ])
          refine wpTill_pure (i := 2) (v := ?_) rfl (by kernel_rfl) (by kernel_rfl) (by kernel_rfl) (by kernel_rfl) (fun _ _ _ h => h) (Or.inl ⟨by rfl, ?_⟩) (fun _ => hC0) ?_
          rotate_left
          · intro w hSw; clear hSw; go_simp; (try with_reducible rfl)
          (try simp only [List.getElem_toArray, List.getElem_cons_succ, List.getElem_cons_zero])
          (try simp only [Act.put, List.setIfInBounds_toArray, List.set_cons_zero, List.set_cons_succ])
          refine wpTill_pure (i := 3) (v := ?_) rfl (by kernel_rfl) (by kernel_rfl) (by kernel_rfl) (by kernel_rfl) (fun _ _ _ h => h) (Or.inl ⟨by rfl, ?_⟩) (fun _ => hC0) ?_
          rotate_left
          · intro w hSw; clear hSw; go_simp; (try with_reducible rfl)
          (try simp only [List.getElem_toArray, List.getElem_cons_succ, List.getElem_cons_zero])
          (try simp only [Act.put, List.setIfInBounds_toArray, List.set_cons_zero, List.set_cons_succ])
          refine wpTill_pure (i := 4) (v := ?_) rfl (by kernel_rfl) (by kernel_rfl) (by kernel_rfl) (by kernel_rfl) (fun _ _ _ h => h) (Or.inl ⟨by rfl, ?_⟩) (fun _ => hC0) ?_
          rotate_left
          · intro w hSw; clear hSw; go_simp; (try with_reducible rfl)
          (try simp only [List.getElem_toArray, List.getElem_cons_succ, List.getElem_cons_zero])
          (try simp only [Act.put, List.setIfInBounds_toArray, List.set_cons_zero, List.set_cons_succ])
          refine wpTill_take (i := 5) (v := ?_) rfl (by kernel_rfl) (by kernel_rfl) (by kernel_rfl) (by kernel_rfl) (by kernel_rfl) (by kernel_rfl) (fun _ _ _ h => h) (Or.inl ⟨by rfl, ?_⟩) hC0 ?_
          rotate_left
          · intro w hSw; (try dsimp only at hSw); obtain ⟨⟨z0, z1, z2⟩, ⟨z3, z4, z5⟩, z6, z7, z8⟩ := hSw; go_simp; (try with_reducible rfl)
          (try simp only [List.getElem_toArray, List.getElem_cons_succ, List.getElem_cons_zero])
          (try simp only [Act.put, List.setIfInBounds_toArray, List.set_cons_zero, List.set_cons_succ])
          refine wpTill_one (k := 6) (by kernel_rfl) rfl (fun K hK => ?_)
          (try simp only [List.getElem_toArray, List.getElem_cons_succ, List.getElem_cons_zero])
          go_simp
          refine (unhide HMU _ bd0).mono ?_
          rintro e xw_1 ⟨xv_1, rfl, hv_1, hb_1⟩
          have cc_1 := below_step bd0 hb_1
          have hC_1 : (fun w' : World => (w'.cell? ⟨b18, 0, none⟩ = some (.bool t1.s) ∧ w'.cell? ⟨b18, 1, none⟩ = some (.slice t1.a1 t1.n1 t1.c1) ∧ w'.cell? ⟨b18, 2, none⟩ = some (.slice t1.a2 t1.n2 t1.c2)) ∧ (w'.cell? ⟨b20, 0, none⟩ = some (.bool th.s) ∧ w'.cell? ⟨b20, 1, none⟩ = some (.slice th.a1 th.n1 th.c1) ∧ w'.cell? ⟨b20, 2, none⟩ = some (.slice th.a2 th.n2 th.c2)) ∧ (w'.cell? ⟨ba, oa + i * 3, none⟩ = some (.bool ta.s) ∧ w'.cell? ⟨ba, oa + i * 3 + 1, none⟩ = some (.slice ta.a1 ta.n1 ta.c1) ∧ w'.cell? ⟨ba, oa + i * 3 + 2, none⟩ = some (.slice ta.a2 ta.n2 ta.c2))) xw_1 := unhide HCC _ cc_1
          refine hK.out _ _ (fun _ => hC_1) ?_
          clear hK K
          (try simp only [Act.put, List.setIfInBounds_toArray, List.set_cons_zero, List.set_cons_succ])
          refine wpTill_one (k := 7) (by kernel_rfl) rfl (fun K hK => ?_)
          (try simp only [List.getElem_toArray, List.getElem_cons_succ, List.getElem_cons_zero])
          go_simp
          refine (unhide HAD _ _ cc_1 hv_1).mono ?_
          rintro e xw_2 ⟨xv_2, rfl, hv_2, hb_2⟩
          have cc_2 := below_step cc_1 hb_2
          have hC_2 : (fun w' : World => (w'.cell? ⟨b18, 0, none⟩ = some (.bool t1.s) ∧ w'.cell? ⟨b18, 1, none⟩ = some (.slice t1.a1 t1.n1 t1.c1) ∧ w'.cell? ⟨b18, 2, none⟩ = some (.slice t1.a2 t1.n2 t1.c2)) ∧ (w'.cell? ⟨b20, 0, none⟩ = some (.bool th.s) ∧ w'.cell? ⟨b20, 1, none⟩ = some (.slice th.a1 th.n1 th.c1) ∧ w'.cell? ⟨b20, 2, none⟩ = some (.slice th.a2 th.n2 th.c2)) ∧ (w'.cell? ⟨ba, oa + i * 3, none⟩ = some (.bool ta.s) ∧ w'.cell? ⟨ba, oa + i * 3 + 1, none⟩ = some (.slice ta.a1 ta.n1 ta.c1) ∧ w'.cell? ⟨ba, oa + i * 3 + 2, none⟩ = some (.slice ta.a2 ta.n2 ta.c2))) xw_2 := unhide HCC _ cc_2
          refine hK.out _ _ (fun _ => hC_2) ?_
          clear hK K
          (try simp only [Act.put, List.setIfInBounds_toArray, List.set_cons_zero, List.set_cons_succ])
          obtain ⟨to1, rfl, rn⟩ := tri_of hv_2
          simp only [Tri.val]
          have S8 := (unhide HS1).keep cc_2
          have ⟨l0, l1, l2⟩ := S8.x18.free
          have ⟨y0, y1, y2⟩ := S8.x18.cells _ (Below.refl _ _)
          have FN := S8.setOut to1 _ rn
          obtain ⟨Wo1, hWo1⟩ : ∃ W, ((xw_2.setCell ⟨b18, 0, none⟩ (.bool to1.s)).setCell ⟨b18, 1, none⟩ (.slice to1.a1 to1.n1 to1.c1)).setCell ⟨b18, 2, none⟩ (.slice to1.a2 to1.n2 to1.c2) = W := ⟨_, rfl⟩
          rw [hWo1] at FN
          have HS2 := hide FN
          clear S8 FN rn hv_1 hb_1 hv_2 hb_2
          refine wpTill_one (k := 8) (by kernel_rfl) rfl (fun K hK => ?_)
          (try simp only [List.getElem_toArray, List.getElem_cons_succ, List.getElem_cons_zero])
          go_simp
          refine hK.out _ _ (fun h => absurd (h.symm.trans (by kernel_rfl)) Bool.false_ne_true) ?_
          clear hK K
          (try simp only [Act.put, List.setIfInBounds_toArray, List.set_cons_zero, List.set_cons_succ])
          refine wpTill_done (by kernel_rfl) ?_ _
          clear l0 l1 l2 y0 y1 y2 hWo1 hC0 hC_1 cc_1 hC_2 cc_2 bd0 HCC HMU HAD
          have HRO1 : Hid (RS (Bth.ps FO i + P * bf qs i) (i * 1000000000 + 1 + 100000002)) := ((unhide HRO).add ((unhide HPR).mul (unhide HRA i hlt))).mono (by omega)
          obtain ⟨SI, hSI⟩ : ∃ s, qsum ks[i]! N = s := ⟨_, rfl⟩
          have HSI := hide hSI
          have hli : (ks[i]!).length = N := unhide HKL i hlt
          have HSR1 : Hid (RS SI 10) := by
            have h := qsum_RS (qs := ks[i]!) (J := 1) (fun j hj => unhide HRL i j hlt (by omega)) N (by omega)
            rw [hSI] at h
            exact h.mono (by omega)
          have HSU : Hid (∀ W, Below Wo1.heap.size Wo1 W → Calls Tryz.prog 17 #[.slice (some ⟨bI, oI, none⟩) N cI] W fun e w' => ∃ v, e = .returned v ∧ RatIs w' v SI ∧ Below W.heap.size W w') := fun W hW => by
            have h := fsum_any _ ks[i]! 1 W (unhide HHD W (below_step (unhide HS2).bl hW)).2 (fun j hj => unhide HRL i j hlt (by omega)) (by rw [hli, KKe]; omega)
            rw [hli, hSI] at h
            exact h
          have HSB : Hid (∀ W v1 v2, Below Wo1.heap.size Wo1 W → RatIs W v1 ((1 : Int) : Rat) → RatIs W v2 SI → Calls Tryz.prog 16 #[v1, v2] W fun e w' => ∃ v, e = .returned v ∧ RatIs w' v (1 - SI) ∧ Below W.heap.size W w') := fun W v1 v2 hW h1 h2 => subR_any v1 v2 _ _ W h1 h2 10 (onei_RS.mono (by omega)) (unhide HSR1) (by rw [KKe]; omega)
          have HCC : Hid (∀ W, Below Wo1.heap.size Wo1 W → (fun w' : World => w'.cell? ⟨bR, oR + i, none⟩ = some (.slice (some ⟨bI, oI, none⟩) N cI)) W) := fun W hW => (unhide HHD W (below_step (unhide HS2).bl hW)).1
          clear hSI hli
          go_wp2_with fail
          refine wp_region_hold (fun w' : World => w'.cell? ⟨bR, oR + i, none⟩ = some (.slice (some ⟨bI, oI, none⟩) N cI)) (by kernel_rfl) ?_
          have bd0 : Below Wo1.heap.size Wo1 Wo1.drew := (Below.refl _ _).drew
          obtain ⟨Wx, hWx⟩ : ∃ W, Wo1.drew = W := ⟨_, rfl⟩
          rw [hWx] at bd0 ⊢
          have hC0 : (fun w' : World => w'.cell? ⟨bR, oR + i, none⟩ = some (.slice (some ⟨bI, oI, none⟩) N cI)) Wx := unhide HCC _ bd0
          refine wpHold_take (i := 1) (v := ?_) rfl (by kernel_rfl) (by kernel_rfl) (by kernel_rfl) (fun _ _ _ h => h) (Or.inl ⟨by rfl, ?_⟩) hC0 ?_
          rotate_left
          · intro w hSw; clear hSw; go_simp; (try with_reducible rfl)
          (try simp only [List.getElem_toArray, List.getElem_cons_succ, List.getElem_cons_zero])
          (try simp only [Act.put, List.setIfInBounds_toArray, List.set_cons_zero, List.set_cons_succ])
          refine wpHold_take (i := 2) (v := ?_) rfl (by kernel_rfl) (by kernel_rfl) (by kernel_rfl) (fun _ _ _ h => h) (Or.inl ⟨by rfl, ?_⟩) hC0 ?_
          rotate_left
          · intro w hSw; clear hSw; go_simp; (try with_reducible rfl)
          (try simp only [List.getElem_toArray, List.getElem_cons_succ, List.getElem_cons_zero])
          (try simp only [Act.put, List.setIfInBounds_toArray, List.set_cons_zero, List.set_cons_succ])
          refine wpHold_take (i := 3) (v := ?_) rfl (by kernel_rfl) (by kernel_rfl) (by kernel_rfl) (fun _ _ _ h => h) (Or.inl ⟨by rfl, ?_⟩) hC0 ?_
          rotate_left
          · intro w hSw; clear hSw; go_simp; (try with_reducible rfl)
          (try simp only [List.getElem_toArray, List.getElem_cons_succ, List.getElem_cons_zero])
          (try simp only [Act.put, List.setIfInBounds_toArray, List.set_cons_zero, List.set_cons_succ])
          refine wpHold_take (i := 4) (v := ?_) rfl (by kernel_rfl) (by kernel_rfl) (by kernel_rfl) (fun _ _ _ h => h) (Or.inl ⟨by rfl, ?_⟩) hC0 ?_
          rotate_left
          · intro w hSw; (try dsimp only at hSw); obtain z0 := hSw; go_simp; (try with_reducible rfl)
          (try simp only [List.getElem_toArray, List.getElem_cons_succ, List.getElem_cons_zero])
          (try simp only [Act.put, List.setIfInBounds_toArray, List.set_cons_zero, List.set_cons_succ])
          refine wpHold_listed (n := 5) (L' := (fun nc nl => #[decide (1 ≤ nc), true, true, true, true, decide (2 ≤ nc), decide (3 ≤ nc), nl, false]) 0 false) (by kernel_rfl) (by kernel_rfl) ?_
          refine wpHold_name (fun a0 ha0 => ?_)
          refine chain_one_any 3 (fun nc nl => #[decide (1 ≤ nc), true, true, true, true, decide (2 ≤ nc), decide (3 ≤ nc), nl, false]) (fun nc => match nc with | 0 => 0 | 1 => 5 | _ => 6) 7 1 (fun nc nl na W => ∃ s1 s2 s3 s4, na = (((a0.put (some 104) s1).put (some 109) s2).put (some 110) s3).put (some 22) s4 ∧ ThreeJ (((1 : Int) : Rat)) (SI) (1 - SI) Wx nc nl W s1 s2 s3 s4) ?_ ?_ ?_ (fun c => rfl) ?_ ?_ ?_ 4 0 false (by omega) (by rfl) _ _ ⟨u104, u109, u110, u22, by subst ha0; rfl, Below.refl _ _, fun h => absurd h (by decide), fun h => absurd h (by decide), fun h => absurd h (by decide), fun h => by cases h⟩
          · clear ha0
            intro nc nl hnc
            match nc, hnc with
            | 0, _ => cases nl <;> (show (_ : Bool) = _; kernel_rfl)
            | 1, _ => cases nl <;> (show (_ : Bool) = _; kernel_rfl)
            | 2, _ => cases nl <;> (show (_ : Bool) = _; kernel_rfl)
            | 3, _ => cases nl <;> (show (_ : Bool) = _; kernel_rfl)
          · clear ha0
            intro nc nl hnc
            match nc, hnc with
            | 0, _ => cases nl <;> (intro _; show (_ : Bool) = _; kernel_rfl)
            | 1, _ => cases nl <;> (intro _; show (_ : Bool) = _; kernel_rfl)
            | 2, _ => cases nl <;> (intro _; show (_ : Bool) = _; kernel_rfl)
            | 3, _ => cases nl <;> (intro h; first | (show (_ : Bool) = _; kernel_rfl) | exact absurd h (by decide))
          · clear ha0
            intro nc nl hnc
            match nc, hnc with
            | 0, _ => rfl
            | 1, _ => rfl
            | 2, _ => rfl
          · rintro nc nl na wv hnc ⟨s1, s2, s3, s4, rfl, J⟩
            subst ha0
            match nc, hnc, J with
            | 0, _, J =>
              refine wpOp_step rfl (fun K hK => ?_)
              (try simp only [Act.put, List.setIfInBounds_toArray, List.set_cons_zero, List.set_cons_succ] at hK ⊢)
              (try simp only [List.getElem_toArray, List.getElem_cons_succ, List.getElem_cons_zero])
              go_simp
              refine (whole_any 1 (by decide) (by decide) wv).mono ?_
              rintro e wz ⟨v, rfl, hv, hb⟩
              exact hK _ _ ⟨unhide HCC _ (below_step bd0 (below_step J.bl hb)), v, s2, s3, s4, rfl, below_step J.bl hb, fun _ => hv, fun h => absurd h (by decide), fun h => absurd h (by decide), fun h => by
                obtain ⟨b, e1, e2, e3⟩ := J.al h
                exact ⟨b, e1, e2.keep hb, e3⟩⟩
            | 1, _, J =>
              refine wpOp_step rfl (fun K hK => ?_)
              (try simp only [Act.put, List.setIfInBounds_toArray, List.set_cons_zero, List.set_cons_succ] at hK ⊢)
              (try simp only [List.getElem_toArray, List.getElem_cons_succ, List.getElem_cons_zero])
              go_simp
              refine (unhide HSU wv (below_step bd0 J.bl)).mono ?_
              rintro e wz ⟨v, rfl, hv, hb⟩
              exact hK _ _ ⟨unhide HCC _ (below_step bd0 (below_step J.bl hb)), s1, v, s3, s4, rfl, below_step J.bl hb, fun _ => (J.r1 (by decide)).below hb, fun _ => hv, fun h => absurd h (by decide), fun h => by
                obtain ⟨b, e1, e2, e3⟩ := J.al h
                exact ⟨b, e1, e2.keep hb, e3⟩⟩
            | 2, _, J =>
              refine wpOp_step rfl (fun K hK => ?_)
              (try simp only [Act.put, List.setIfInBounds_toArray, List.set_cons_zero, List.set_cons_succ] at hK ⊢)
              (try simp only [List.getElem_toArray, List.getElem_cons_succ, List.getElem_cons_zero])
              go_simp
              refine (unhide HSB wv _ _ (below_step bd0 J.bl) (J.r1 (by decide)) (J.r2 (by decide))).mono ?_
              rintro e wz ⟨v, rfl, hv, hb⟩
              exact hK _ _ ⟨unhide HCC _ (below_step bd0 (below_step J.bl hb)), s1, s2, v, s4, rfl, below_step J.bl hb, fun _ => (J.r1 (by decide)).below hb, fun _ => (J.r2 (by decide)).below hb, fun _ => hv, fun h => by
                obtain ⟨b, e1, e2, e3⟩ := J.al h
                exact ⟨b, e1, e2.keep hb, e3⟩⟩
          · rintro nc na wv ⟨s1, s2, s3, s4, rfl, J⟩
            subst ha0
            refine wpOp_step rfl (fun K hK => ?_)
            (try simp only [Act.put, List.setIfInBounds_toArray, List.set_cons_zero, List.set_cons_succ] at hK ⊢)
            (try simp only [List.getElem_toArray, List.getElem_cons_succ, List.getElem_cons_zero])
            go_simp
            have hb := alloc_below wv (.cells #[.bool false, .slice none 0 0, .slice none 0 0] 39)
            exact hK _ _ ⟨unhide HCC _ (below_step bd0 (below_step J.bl hb)), s1, s2, s3, .pointer (some ⟨wv.heap.size, 0, none⟩), rfl, below_step J.bl hb, fun h => (J.r1 h).below hb, fun h => (J.r2 h).below hb, fun h => (J.r3 h).below hb, fun _ => ⟨wv.heap.size, rfl, BoxIs.new (t := zTri) (rat_zero _), J.bl.size⟩⟩
          · rintro na wv ⟨s1, s2, s3, s4, rfl, J⟩
            subst ha0
            obtain ⟨bs, rfl, B10, e10⟩ := J.al rfl
            obtain ⟨tst, rfl, r0⟩ := tri_of (J.r3 (by decide))
            simp only [Tri.val]
            (try simp only [Act.put, List.setIfInBounds_toArray, List.set_cons_zero, List.set_cons_succ])
            have ⟨l0, l1, l2⟩ := B10.free
            have ⟨k0, k1, k2⟩ := B10.cells _ (Below.refl _ _)
            have NB := B10.set r0
            have e10' : Wo1.heap.size ≤ bs := Nat.le_trans bd0.size e10
            have YB := (((below_step bd0 J.bl).setCell (p := ⟨bs, 0, none⟩) e10' (.bool tst.s)).setCell (p := ⟨bs, 1, none⟩) e10' (.slice tst.a1 tst.n1 tst.c1)).setCell (p := ⟨bs, 2, none⟩) e10' (.slice tst.a2 tst.n2 tst.c2)
            have HG_bs := hide e10'
            have hCn : (fun w' : World => w'.cell? ⟨bR, oR + i, none⟩ = some (.slice (some ⟨bI, oI, none⟩) N cI)) _ := unhide HCC _ YB
            obtain ⟨Wbs, hWy⟩ : ∃ W, ((wv.setCell ⟨bs, 0, none⟩ (.bool tst.s)).setCell ⟨bs, 1, none⟩ (.slice tst.a1 tst.n1 tst.c1)).setCell ⟨bs, 2, none⟩ (.slice tst.a2 tst.n2 tst.c2) = W := ⟨_, rfl⟩
            rw [hWy] at NB YB hCn
            have HX_bs := hide NB
            have HY_bs := hide YB
            clear J B10 r0 hC0 YB NB e10'
            refine wpHold_one (k := 8) (by kernel_rfl) rfl (fun K hK => ?_)
            (try simp only [List.getElem_toArray, List.getElem_cons_succ, List.getElem_cons_zero])
            go_simp
            refine hK.out _ _ hCn ?_
            clear hK K
            (try simp only [Act.put, List.setIfInBounds_toArray, List.set_cons_zero, List.set_cons_succ])
            refine wpHold_done (by kernel_rfl) ?_ _
            clear hCn l0 l1 l2 k0 k1 k2 hWy e10 bd0 hWx
            have HS3 := hide ((unhide HS2).keep (unhide HY_bs))
            have HLB : Hid (b20 < bs) := Nat.lt_of_lt_of_le (unhide HS2).x20.lt (unhide HG_bs)
            clear HCC HSU HSB HS2
            have k14 := (unhide HS3).k14
            have ⟨kn, fn⟩ := (unhide HS3).kn (j := i) hlt
            have hp4i := unhide HP4 i
            obtain ⟨X, hX⟩ : ∃ X : Int, ((p i : Nat) : Int) = X := ⟨_, rfl⟩
            rw [hX] at kn
            have HXE := hide hX
            by_cases hp0 : 0 < p i
            · obtain ⟨z, hz⟩ : ∃ z, p i = z + 1 := ⟨p i - 1, by omega⟩
              have HZ := hide hz
              have e9 : 0 < X := by omega
              have hX4 : X ≤ 4 := by omega
              have HM1 : Hid (∀ W, Below Wbs.heap.size Wbs W → Calls Tryz.prog 15 #[.agg #[.bool th.s, .slice th.a1 th.n1 th.c1, .slice th.a2 th.n2 th.c2], .agg #[.bool tm.s, .slice tm.a1 tm.n1 tm.c1, .slice tm.a2 tm.n2 tm.c2]] W fun e w' => ∃ v, e = .returned v ∧ RatIs w' v (P * bf ss i) ∧ Below W.heap.size W w') := fun W hW => mulR_any th.val tm.val _ _ W ((unhide HS3).x20.2.below hW) (unhide HTM W (below_step (unhide HS3).bl hW)).2 6000000000 ((unhide HPR).mono (by omega)) ((unhide HRS i hlt).mono (by omega)) (by rw [KKe]; omega)
              have HSB : Hid (∀ W v1, Below Wbs.heap.size Wbs W → RatIs W v1 (((1 : Int) : Rat)) → Calls Tryz.prog 16 #[v1, .agg #[.bool tii.s, .slice tii.a1 tii.n1 tii.c1, .slice tii.a2 tii.n2 tii.c2]] W fun e w' => ∃ v, e = .returned v ∧ RatIs w' v (1 - lf ks i i) ∧ Below W.heap.size W w') := fun W v1 hW hv1 => subR_any v1 tii.val _ _ W hv1 (unhide HTII W (below_step (unhide HS3).bl hW)).2 6000000000 (onei_RS.mono (by omega)) ((unhide HRL i i hlt hlt).mono (by omega)) (by rw [KKe]; omega)
              have HM2 : Hid (∀ W v1 v2, Below Wbs.heap.size Wbs W → RatIs W v1 (P * bf ss i) → RatIs W v2 (1 - lf ks i i) → Calls Tryz.prog 15 #[v1, v2] W fun e w' => ∃ v, e = .returned v ∧ RatIs w' v (P * bf ss i * (1 - lf ks i i)) ∧ Below W.heap.size W w') := fun W v1 v2 hW hv1 hv2 => mulR_any v1 v2 _ _ W hv1 hv2 6000000000 (((unhide HPR).mul (unhide HRS i hlt)).mono (by omega)) ((one_RS'.sub' (unhide HRL i i hlt hlt)).mono (by omega)) (by rw [KKe]; omega)
              have HAD : Hid (∀ W v2, Below Wbs.heap.size Wbs W → RatIs W v2 (P * bf ss i * (1 - lf ks i i)) → Calls Tryz.prog 14 #[.agg #[.bool to1.s, .slice to1.a1 to1.n1 to1.c1, .slice to1.a2 to1.n2 to1.c2], v2] W fun e w' => ∃ v, e = .returned v ∧ RatIs w' v (Bth.ps FO i + P * bf qs i + P * bf ss i * (1 - lf ks i i)) ∧ Below W.heap.size W w') := fun W v2 hW hv2 => addR_any to1.val v2 _ _ W ((unhide HS3).x18.2.below hW) hv2 6000000000 ((unhide HRO1).mono (by omega)) ((((unhide HPR).mul (unhide HRS i hlt)).mul (one_RS'.sub' (unhide HRL i i hlt hlt))).mono (by omega)) (by rw [KKe]; omega)
              have HCC : Hid (∀ W, Below Wbs.heap.size Wbs W → (fun w' : World => (w'.cell? ⟨b18, 0, none⟩ = some (.bool to1.s) ∧ w'.cell? ⟨b18, 1, none⟩ = some (.slice to1.a1 to1.n1 to1.c1) ∧ w'.cell? ⟨b18, 2, none⟩ = some (.slice to1.a2 to1.n2 to1.c2)) ∧ (w'.cell? ⟨b20, 0, none⟩ = some (.bool th.s) ∧ w'.cell? ⟨b20, 1, none⟩ = some (.slice th.a1 th.n1 th.c1) ∧ w'.cell? ⟨b20, 2, none⟩ = some (.slice th.a2 th.n2 th.c2)) ∧ (w'.cell? ⟨bm, om + i * 3, none⟩ = some (.bool tm.s) ∧ w'.cell? ⟨bm, om + i * 3 + 1, none⟩ = some (.slice tm.a1 tm.n1 tm.c1) ∧ w'.cell? ⟨bm, om + i * 3 + 2, none⟩ = some (.slice tm.a2 tm.n2 tm.c2)) ∧ w'.cell? ⟨bR, oR + i, none⟩ = some (.slice (some ⟨bI, oI, none⟩) N cI) ∧ (w'.cell? ⟨bI, oI + i * 3, none⟩ = some (.bool tii.s) ∧ w'.cell? ⟨bI, oI + i * 3 + 1, none⟩ = some (.slice tii.a1 tii.n1 tii.c1) ∧ w'.cell? ⟨bI, oI + i * 3 + 2, none⟩ = some (.slice tii.a2 tii.n2 tii.c2))) W) := fun W hW => by
                have bc := below_step (unhide HS3).bl hW
                exact ⟨(unhide HS3).x18.cells W hW, (unhide HS3).x20.cells W hW, (unhide HTM W bc).1, (unhide HHD W bc).1, (unhide HTII W bc).1⟩
              clear hX hz hp0 hp4i
              go_wp2_with fail
              clear k14 kn fn
              refine wp_region_till (fun w' : World => (w'.cell? ⟨b18, 0, none⟩ = some (.bool to1.s) ∧ w'.cell? ⟨b18, 1, none⟩ = some (.slice to1.a1 to1.n1 to1.c1) ∧ w'.cell? ⟨b18, 2, none⟩ = some (.slice to1.a2 to1.n2 to1.c2)) ∧ (w'.cell? ⟨b20, 0, none⟩ = some (.bool th.s) ∧ w'.cell? ⟨b20, 1, none⟩ = some (.slice th.a1 th.n1 th.c1) ∧ w'.cell? ⟨b20, 2, none⟩ = some (.slice th.a2 th.n2 th.c2)) ∧ (w'.cell? ⟨bm, om + i * 3, none⟩ = some (.bool tm.s) ∧ w'.cell? ⟨bm, om + i * 3 + 1, none⟩ = some (.slice tm.a1 tm.n1 tm.c1) ∧ w'.cell? ⟨bm, om + i * 3 + 2, none⟩ = some (.slice tm.a2 tm.n2 tm.c2)) ∧ w'.cell? ⟨bR, oR + i, none⟩ = some (.slice (some ⟨bI, oI, none⟩) N cI) ∧ (w'.cell? ⟨bI, oI + i * 3, none⟩ = some (.bool tii.s) ∧ w'.cell? ⟨bI, oI + i * 3 + 1, none⟩ = some (.slice tii.a1 tii.n1 tii.c1) ∧ w'.cell? ⟨bI, oI + i * 3 + 2, none⟩ = some (.slice tii.a2 tii.n2 tii.c2))) 18 (by kernel_rfl) ?_
              have bd0 : Below Wbs.heap.size Wbs Wbs.drew := (Below.refl _ _).drew
              have hC0 : (fun w' : World => (w'.cell? ⟨b18, 0, none⟩ = some (.bool to1.s) ∧ w'.cell? ⟨b18, 1, none⟩ = some (.slice to1.a1 to1.n1 to1.c1) ∧ w'.cell? ⟨b18, 2, none⟩ = some (.slice to1.a2 to1.n2 to1.c2)) ∧ (w'.cell? ⟨b20, 0, none⟩ = some (.bool th.s) ∧ w'.cell? ⟨b20, 1, none⟩ = some (.slice th.a1 th.n1 th.c1) ∧ w'.cell? ⟨b20, 2, none⟩ = some (.slice th.a2 th.n2 th.c2)) ∧ (w'.cell? ⟨bm, om + i * 3, none⟩ = some (.bool tm.s) ∧ w'.cell? ⟨bm, om + i * 3 + 1, none⟩ = some (.slice tm.a1 tm.n1 tm.c1) ∧ w'.cell? ⟨bm, om + i * 3 + 2, none⟩ = some (.slice tm.a2 tm.n2 tm.c2)) ∧ w'.cell? ⟨bR, oR + i, none⟩ = some (.slice (some ⟨bI, oI, none⟩) N cI) ∧ (w'.cell? ⟨bI, oI + i * 3, none⟩ = some (.bool tii.s) ∧ w'.cell? ⟨bI, oI + i * 3 + 1, none⟩ = some (.slice tii.a1 tii.n1 tii.c1) ∧ w'.cell? ⟨bI, oI + i * 3 + 2, none⟩ = some (.slice tii.a2 tii.n2 tii.c2))) Wbs.drew := unhide HCC _ bd0
              refine wpTill_take (i := 0) (v := ?_) rfl (by kernel_rfl) (by kernel_rfl) (by kernel_rfl) (by kernel_rfl) (by kernel_rfl) (by kernel_rfl) (fun _ _ _ h => h) (Or.inl ⟨by rfl, ?_⟩) hC0 ?_
              rotate_left
              · intro w hSw; (try dsimp only at hSw); obtain ⟨⟨z0, z1, z2⟩, ⟨z3, z4, z5⟩, ⟨z6, z7, z8⟩, z9, z10, z11, z12⟩ := hSw; go_simp; (try with_reducible rfl)
              (try simp only [List.getElem_toArray, List.getElem_cons_succ, List.getElem_cons_zero])
              (try simp only [Act.put, List.setIfInBounds_toArray, List.set_cons_zero, List.set_cons_succ])
              refine wpTill_take (i := 1) (v := ?_) rfl (by kernel_rfl) (by kernel_rfl) (by kernel_rfl) (by kernel_rfl) (by kernel_rfl) (by kernel_rfl) (fun _ _ _ h => h) (Or.inl ⟨by rfl, ?_⟩) hC0 ?_
              rotate_left
              · intro w hSw; (try dsimp only at hSw); obtain ⟨⟨z0, z1, z2⟩, ⟨z3, z4, z5⟩, ⟨z6, z7, z8⟩, z9, z10, z11, z12⟩ := hSw; go_simp; (try with_reducible rfl)
              (try simp only [List.getElem_toArray, List.getElem_cons_succ, List.getElem_cons_zero])
              (try simp only [Act.put, List.setIfInBounds_toArray, List.set_cons_zero, List.set_cons_succ])
              refine wpTill_pure (i := 2) (v := ?_) rfl (by kernel_rfl) (by kernel_rfl) (by kernel_rfl) (by kernel_rfl) (fun _ _ _ h => h) (Or.inl ⟨by rfl, ?_⟩) (fun _ => hC0) ?_
              rotate_left
              · intro w hSw; clear hSw; go_simp; (try with_reducible rfl)
              (try simp only [List.getElem_toArray, List.getElem_cons_succ, List.getElem_cons_zero])
              (try simp only [Act.put, List.setIfInBounds_toArray, List.set_cons_zero, List.set_cons_succ])
              refine wpTill_pure (i := 3) (v := ?_) rfl (by kernel_rfl) (by kernel_rfl) (by kernel_rfl) (by kernel_rfl) (fun _ _ _ h => h) (Or.inl ⟨by rfl, ?_⟩) (fun _ => hC0) ?_
              rotate_left
              · intro w hSw; clear hSw; go_simp; (try with_reducible rfl)
              (try simp only [List.getElem_toArray, List.getElem_cons_succ, List.getElem_cons_zero])
              (try simp only [Act.put, List.setIfInBounds_toArray, List.set_cons_zero, List.set_cons_succ])
              refine wpTill_pure (i := 4) (v := ?_) rfl (by kernel_rfl) (by kernel_rfl) (by kernel_rfl) (by kernel_rfl) (fun _ _ _ h => h) (Or.inl ⟨by rfl, ?_⟩) (fun _ => hC0) ?_
              rotate_left
              · intro w hSw; clear hSw; go_simp; (try with_reducible rfl)
              (try simp only [List.getElem_toArray, List.getElem_cons_succ, List.getElem_cons_zero])
              (try simp only [Act.put, List.setIfInBounds_toArray, List.set_cons_zero, List.set_cons_succ])
              refine wpTill_take (i := 5) (v := ?_) rfl (by kernel_rfl) (by kernel_rfl) (by kernel_rfl) (by kernel_rfl) (by kernel_rfl) (by kernel_rfl) (fun _ _ _ h => h) (Or.inl ⟨by rfl, ?_⟩) hC0 ?_
              rotate_left
              · intro w hSw; (try dsimp only at hSw); obtain ⟨⟨z0, z1, z2⟩, ⟨z3, z4, z5⟩, ⟨z6, z7, z8⟩, z9, z10, z11, z12⟩ := hSw; go_simp; (try with_reducible rfl)
              (try simp only [List.getElem_toArray, List.getElem_cons_succ, List.getElem_cons_zero])
              (try simp only [Act.put, List.setIfInBounds_toArray, List.set_cons_zero, List.set_cons_succ])
              refine wpTill_pure (i := 8) (v := ?_) rfl (by kernel_rfl) (by kernel_rfl) (by kernel_rfl) (by kernel_rfl) (fun _ _ _ h => h) (Or.inl ⟨by rfl, ?_⟩) (fun _ => hC0) ?_
              rotate_left
              · intro w hSw; clear hSw; go_simp; (try with_reducible rfl)
              (try simp only [List.getElem_toArray, List.getElem_cons_succ, List.getElem_cons_zero])
              (try simp only [Act.put, List.setIfInBounds_toArray, List.set_cons_zero, List.set_cons_succ])
              refine wpTill_pure (i := 9) (v := ?_) rfl (by kernel_rfl) (by kernel_rfl) (by kernel_rfl) (by kernel_rfl) (fun _ _ _ h => h) (Or.inl ⟨by rfl, ?_⟩) (fun _ => hC0) ?_
              rotate_left
              · intro w hSw; clear hSw; go_simp; (try with_reducible rfl)
              (try simp only [List.getElem_toArray, List.getElem_cons_succ, List.getElem_cons_zero])
              (try simp only [Act.put, List.setIfInBounds_toArray, List.set_cons_zero, List.set_cons_succ])
              refine wpTill_pure (i := 10) (v := ?_) rfl (by kernel_rfl) (by kernel_rfl) (by kernel_rfl) (by kernel_rfl) (fun _ _ _ h => h) (Or.inl ⟨by rfl, ?_⟩) (fun _ => hC0) ?_
              rotate_left
              · intro w hSw; clear hSw; go_simp; (try with_reducible rfl)
              (try simp only [List.getElem_toArray, List.getElem_cons_succ, List.getElem_cons_zero])
              (try simp only [Act.put, List.setIfInBounds_toArray, List.set_cons_zero, List.set_cons_succ])
              refine wpTill_take (i := 11) (v := ?_) rfl (by kernel_rfl) (by kernel_rfl) (by kernel_rfl) (by kernel_rfl) (by kernel_rfl) (by kernel_rfl) (fun _ _ _ h => h) (Or.inl ⟨by rfl, ?_⟩) hC0 ?_
              rotate_left
              · intro w hSw; (try dsimp only at hSw); obtain ⟨⟨z0, z1, z2⟩, ⟨z3, z4, z5⟩, ⟨z6, z7, z8⟩, z9, z10, z11, z12⟩ := hSw; go_simp; (try with_reducible rfl)
              (try simp only [List.getElem_toArray, List.getElem_cons_succ, List.getElem_cons_zero])
              (try simp only [Act.put, List.setIfInBounds_toArray, List.set_cons_zero, List.set_cons_succ])
              refine wpTill_pure (i := 12) (v := ?_) rfl (by kernel_rfl) (by kernel_rfl) (by kernel_rfl) (by kernel_rfl) (fun _ _ _ h => h) (Or.inl ⟨by rfl, ?_⟩) (fun _ => hC0) ?_
              rotate_left
              · intro w hSw; clear hSw; go_simp; (try with_reducible rfl)
              (try simp only [List.getElem_toArray, List.getElem_cons_succ, List.getElem_cons_zero])
              (try simp only [Act.put, List.setIfInBounds_toArray, List.set_cons_zero, List.set_cons_succ])
              refine wpTill_pure (i := 13) (v := ?_) rfl (by kernel_rfl) (by kernel_rfl) (by kernel_rfl) (by kernel_rfl) (fun _ _ _ h => h) (Or.inl ⟨by rfl, ?_⟩) (fun _ => hC0) ?_
              rotate_left
              · intro w hSw; clear hSw; go_simp; (try with_reducible rfl)
              (try simp only [List.getElem_toArray, List.getElem_cons_succ, List.getElem_cons_zero])
              (try simp only [Act.put, List.setIfInBounds_toArray, List.set_cons_zero, List.set_cons_succ])
              refine wpTill_take (i := 14) (v := ?_) rfl (by kernel_rfl) (by kernel_rfl) (by kernel_rfl) (by kernel_rfl) (by kernel_rfl) (by kernel_rfl) (fun _ _ _ h => h) (Or.inl ⟨by rfl, ?_⟩) hC0 ?_
              rotate_left
              · intro w hSw; (try dsimp only at hSw); obtain ⟨⟨z0, z1, z2⟩, ⟨z3, z4, z5⟩, ⟨z6, z7, z8⟩, z9, z10, z11, z12⟩ := hSw; go_simp; (try with_reducible rfl)
              (try simp only [List.getElem_toArray, List.getElem_cons_succ, List.getElem_cons_zero])
              (try simp only [Act.put, List.setIfInBounds_toArray, List.set_cons_zero, List.set_cons_succ])
              refine wpTill_one (k := 6) (by kernel_rfl) rfl (fun K hK => ?_)
              (try simp only [List.getElem_toArray, List.getElem_cons_succ, List.getElem_cons_zero])
              go_simp
              refine (unhide HM1 _ bd0).mono ?_
              rintro e xw_1 ⟨xv_1, rfl, hv_1, hb_1⟩
              have cc_1 := below_step bd0 hb_1
              have hC_1 : (fun w' : World => (w'.cell? ⟨b18, 0, none⟩ = some (.bool to1.s) ∧ w'.cell? ⟨b18, 1, none⟩ = some (.slice to1.a1 to1.n1 to1.c1) ∧ w'.cell? ⟨b18, 2, none⟩ = some (.slice to1.a2 to1.n2 to1.c2)) ∧ (w'.cell? ⟨b20, 0, none⟩ = some (.bool th.s) ∧ w'.cell? ⟨b20, 1, none⟩ = some (.slice th.a1 th.n1 th.c1) ∧ w'.cell? ⟨b20, 2, none⟩ = some (.slice th.a2 th.n2 th.c2)) ∧ (w'.cell? ⟨bm, om + i * 3, none⟩ = some (.bool tm.s) ∧ w'.cell? ⟨bm, om + i * 3 + 1, none⟩ = some (.slice tm.a1 tm.n1 tm.c1) ∧ w'.cell? ⟨bm, om + i * 3 + 2, none⟩ = some (.slice tm.a2 tm.n2 tm.c2)) ∧ w'.cell? ⟨bR, oR + i, none⟩ = some (.slice (some ⟨bI, oI, none⟩) N cI) ∧ (w'.cell? ⟨bI, oI + i * 3, none⟩ = some (.bool tii.s) ∧ w'.cell? ⟨bI, oI + i * 3 + 1, none⟩ = some (.slice tii.a1 tii.n1 tii.c1) ∧ w'.cell? ⟨bI, oI + i * 3 + 2, none⟩ = some (.slice tii.a2 tii.n2 tii.c2))) xw_1 := unhide HCC _ cc_1
              refine hK.out _ _ (fun _ => hC_1) ?_
              clear hK K
              (try simp only [Act.put, List.setIfInBounds_toArray, List.set_cons_zero, List.set_cons_succ])
              refine wpTill_one (k := 7) (by kernel_rfl) rfl (fun K hK => ?_)
              (try simp only [List.getElem_toArray, List.getElem_cons_succ, List.getElem_cons_zero])
              go_simp
              refine (whole_any 1 (by decide) (by decide) _).mono ?_
              rintro e xw_2 ⟨xv_2, rfl, hv_2, hb_2⟩
              have cc_2 := below_step cc_1 hb_2
              have hC_2 : (fun w' : World => (w'.cell? ⟨b18, 0, none⟩ = some (.bool to1.s) ∧ w'.cell? ⟨b18, 1, none⟩ = some (.slice to1.a1 to1.n1 to1.c1) ∧ w'.cell? ⟨b18, 2, none⟩ = some (.slice to1.a2 to1.n2 to1.c2)) ∧ (w'.cell? ⟨b20, 0, none⟩ = some (.bool th.s) ∧ w'.cell? ⟨b20, 1, none⟩ = some (.slice th.a1 th.n1 th.c1) ∧ w'.cell? ⟨b20, 2, none⟩ = some (.slice th.a2 th.n2 th.c2)) ∧ (w'.cell? ⟨bm, om + i * 3, none⟩ = some (.bool tm.s) ∧ w'.cell? ⟨bm, om + i * 3 + 1, none⟩ = some (.slice tm.a1 tm.n1 tm.c1) ∧ w'.cell? ⟨bm, om + i * 3 + 2, none⟩ = some (.slice tm.a2 tm.n2 tm.c2)) ∧ w'.cell? ⟨bR, oR + i, none⟩ = some (.slice (some ⟨bI, oI, none⟩) N cI) ∧ (w'.cell? ⟨bI, oI + i * 3, none⟩ = some (.bool tii.s) ∧ w'.cell? ⟨bI, oI + i * 3 + 1, none⟩ = some (.slice tii.a1 tii.n1 tii.c1) ∧ w'.cell? ⟨bI, oI + i * 3 + 2, none⟩ = some (.slice tii.a2 tii.n2 tii.c2))) xw_2 := unhide HCC _ cc_2
              refine hK.out _ _ (fun _ => hC_2) ?_
              clear hK K
              (try simp only [Act.put, List.setIfInBounds_toArray, List.set_cons_zero, List.set_cons_succ])
              refine wpTill_one (k := 15) (by kernel_rfl) rfl (fun K hK => ?_)
              (try simp only [List.getElem_toArray, List.getElem_cons_succ, List.getElem_cons_zero])
              go_simp
              refine (unhide HSB _ _ cc_2 hv_2).mono ?_
              rintro e xw_3 ⟨xv_3, rfl, hv_3, hb_3⟩
              have cc_3 := below_step cc_2 hb_3
              have hC_3 : (fun w' : World => (w'.cell? ⟨b18, 0, none⟩ = some (.bool to1.s) ∧ w'.cell? ⟨b18, 1, none⟩ = some (.slice to1.a1 to1.n1 to1.c1) ∧ w'.cell? ⟨b18, 2, none⟩ = some (.slice to1.a2 to1.n2 to1.c2)) ∧ (w'.cell? ⟨b20, 0, none⟩ = some (.bool th.s) ∧ w'.cell? ⟨b20, 1, none⟩ = some (.slice th.a1 th.n1 th.c1) ∧ w'.cell? ⟨b20, 2, none⟩ = some (.slice th.a2 th.n2 th.c2)) ∧ (w'.cell? ⟨bm, om + i * 3, none⟩ = some (.bool tm.s) ∧ w'.cell? ⟨bm, om + i * 3 + 1, none⟩ = some (.slice tm.a1 tm.n1 tm.c1) ∧ w'.cell? ⟨bm, om + i * 3 + 2, none⟩ = some (.slice tm.a2 tm.n2 tm.c2)) ∧ w'.cell? ⟨bR, oR + i, none⟩ = some (.slice (some ⟨bI, oI, none⟩) N cI) ∧ (w'.cell? ⟨bI, oI + i * 3, none⟩ = some (.bool tii.s) ∧ w'.cell? ⟨bI, oI + i * 3 + 1, none⟩ = some (.slice tii.a1 tii.n1 tii.c1) ∧ w'.cell? ⟨bI, oI + i * 3 + 2, none⟩ = some (.slice tii.a2 tii.n2 tii.c2))) xw_3 := unhide HCC _ cc_3
              refine hK.out _ _ (fun _ => hC_3) ?_
              clear hK K
              (try simp only [Act.put, List.setIfInBounds_toArray, List.set_cons_zero, List.set_cons_succ])
              refine wpTill_one (k := 16) (by kernel_rfl) rfl (fun K hK => ?_)
              (try simp only [List.getElem_toArray, List.getElem_cons_succ, List.getElem_cons_zero])
              go_simp
              refine (unhide HM2 _ _ _ cc_3 ((hv_1.below hb_2).below hb_3) hv_3).mono ?_
              rintro e xw_4 ⟨xv_4, rfl, hv_4, hb_4⟩
              have cc_4 := below_step cc_3 hb_4
              have hC_4 : (fun w' : World => (w'.cell? ⟨b18, 0, none⟩ = some (.bool to1.s) ∧ w'.cell? ⟨b18, 1, none⟩ = some (.slice to1.a1 to1.n1 to1.c1) ∧ w'.cell? ⟨b18, 2, none⟩ = some (.slice to1.a2 to1.n2 to1.c2)) ∧ (w'.cell? ⟨b20, 0, none⟩ = some (.bool th.s) ∧ w'.cell? ⟨b20, 1, none⟩ = some (.slice th.a1 th.n1 th.c1) ∧ w'.cell? ⟨b20, 2, none⟩ = some (.slice th.a2 th.n2 th.c2)) ∧ (w'.cell? ⟨bm, om + i * 3, none⟩ = some (.bool tm.s) ∧ w'.cell? ⟨bm, om + i * 3 + 1, none⟩ = some (.slice tm.a1 tm.n1 tm.c1) ∧ w'.cell? ⟨bm, om + i * 3 + 2, none⟩ = some (.slice tm.a2 tm.n2 tm.c2)) ∧ w'.cell? ⟨bR, oR + i, none⟩ = some (.slice (some ⟨bI, oI, none⟩) N cI) ∧ (w'.cell? ⟨bI, oI + i * 3, none⟩ = some (.bool tii.s) ∧ w'.cell? ⟨bI, oI + i * 3 + 1, none⟩ = some (.slice tii.a1 tii.n1 tii.c1) ∧ w'.cell? ⟨bI, oI + i * 3 + 2, none⟩ = some (.slice tii.a2 tii.n2 tii.c2))) xw_4 := unhide HCC _ cc_4
              refine hK.out _ _ (fun _ => hC_4) ?_
              clear hK K
              (try simp only [Act.put, List.setIfInBounds_toArray, List.set_cons_zero, List.set_cons_succ])
              refine wpTill_one (k := 17) (by kernel_rfl) rfl (fun K hK => ?_)
              (try simp only [List.getElem_toArray, List.getElem_cons_succ, List.getElem_cons_zero])
              go_simp
              refine (unhide HAD _ _ cc_4 hv_4).mono ?_
              rintro e xw_5 ⟨xv_5, rfl, hv_5, hb_5⟩
              have cc_5 := below_step cc_4 hb_5
              have hC_5 : (fun w' : World => (w'.cell? ⟨b18, 0, none⟩ = some (.bool to1.s) ∧ w'.cell? ⟨b18, 1, none⟩ = some (.slice to1.a1 to1.n1 to1.c1) ∧ w'.cell? ⟨b18, 2, none⟩ = some (.slice to1.a2 to1.n2 to1.c2)) ∧ (w'.cell? ⟨b20, 0, none⟩ = some (.bool th.s) ∧ w'.cell? ⟨b20, 1, none⟩ = some (.slice th.a1 th.n1 th.c1) ∧ w'.cell? ⟨b20, 2, none⟩ = some (.slice th.a2 th.n2 th.c2)) ∧ (w'.cell? ⟨bm, om + i * 3, none⟩ = some (.bool tm.s) ∧ w'.cell? ⟨bm, om + i * 3 + 1, none⟩ = some (.slice tm.a1 tm.n1 tm.c1) ∧ w'.cell? ⟨bm, om + i * 3 + 2, none⟩ = some (.slice tm.a2 tm.n2 tm.c2)) ∧ w'.cell? ⟨bR, oR + i, none⟩ = some (.slice (some ⟨bI, oI, none⟩) N cI) ∧ (w'.cell? ⟨bI, oI + i * 3, none⟩ = some (.bool tii.s) ∧ w'.cell? ⟨bI, oI + i * 3 + 1, none⟩ = some (.slice tii.a1 tii.n1 tii.c1) ∧ w'.cell? ⟨bI, oI + i * 3 + 2, none⟩ = some (.slice tii.a2 tii.n2 tii.c2))) xw_5 := unhide HCC _ cc_5
              refine hK.out _ _ (fun _ => hC_5) ?_
              clear hK K
              (try simp only [Act.put, List.setIfInBounds_toArray, List.set_cons_zero, List.set_cons_succ])
              obtain ⟨to2, rfl, rn⟩ := tri_of hv_5
              simp only [Tri.val]
              have S8 := (unhide HS3).keep cc_5
              have ⟨l0, l1, l2⟩ := S8.x18.free
              have ⟨y0, y1, y2⟩ := S8.x18.cells _ (Below.refl _ _)
              have FN := S8.setOut to2 _ rn
              have FBS := ((unhide HX_bs).keep cc_5).other S8.x18 (by have a := unhide HLB; have h6 := S8.o6; have h7 := S8.o7; omega) (.bool to2.s) (.slice to2.a1 to2.n1 to2.c1) (.slice to2.a2 to2.n2 to2.c2)
              obtain ⟨Wo2, hWo2⟩ : ∃ W, ((xw_5.setCell ⟨b18, 0, none⟩ (.bool to2.s)).setCell ⟨b18, 1, none⟩ (.slice to2.a1 to2.n1 to2.c1)).setCell ⟨b18, 2, none⟩ (.slice to2.a2 to2.n2 to2.c2) = W := ⟨_, rfl⟩
              rw [hWo2] at FN FBS
              have HS4 := hide FN
              have HS4_b := hide FBS
              clear S8 FN rn FBS hv_1 hb_1 hv_2 hb_2 hv_3 hb_3 hv_4 hb_4 hv_5 hb_5
              refine wpTill_one (k := 18) (by kernel_rfl) rfl (fun K hK => ?_)
              (try simp only [List.getElem_toArray, List.getElem_cons_succ, List.getElem_cons_zero])
              go_simp
              refine hK.out _ _ (fun h => absurd (h.symm.trans (by kernel_rfl)) Bool.false_ne_true) ?_
              clear hK K
              (try simp only [Act.put, List.setIfInBounds_toArray, List.set_cons_zero, List.set_cons_succ])
              refine wpTill_done (by kernel_rfl) ?_ _
              clear l0 l1 l2 y0 y1 y2 hWo2 hC0 hC_1 cc_1 hC_2 cc_2 hC_3 cc_3 hC_4 cc_4 hC_5 cc_5 bd0 HCC HM1 HSB HM2 HAD HS3 HX_bs
              have HRO2 : Hid (RS (Bth.ps FO i + P * bf qs i + P * bf ss i * (1 - lf ks i i)) (i * 1000000000 + 1 + 300000000)) := ((unhide HRO1).add (((unhide HPR).mul (unhide HRS i hlt)).mul (one_RS'.sub' (unhide HRL i i hlt hlt)))).mono (by omega)
              have k14 := (unhide HS4).k14
              have ⟨kn, fn⟩ := (unhide HS4).kn (j := i) (by omega)
              rw [unhide HXE] at kn
              have FN := (unhide HS4).setN i (z)
              have FBS := (unhide HS4_b).ints (j := i) (x := ((z : Nat) : Int)) (unhide HS4).cn (by have a := unhide HLB; have h3 := (unhide HS4).o3; have h4 := (unhide HS4).o4; have h5 := (unhide HS4).o5; have h6 := (unhide HS4).o6; have h7 := (unhide HS4).o7; omega)
              have ecast : ((z : Nat) : Int) = X - 1 := by have a := unhide HXE; have b := unhide HZ; omega
              rw [ecast] at FN FBS
              obtain ⟨Wn1, hWn1⟩ : ∃ W, Wo2.setCell ⟨gn, i, none⟩ (.int .i64 (X - 1)) = W := ⟨_, rfl⟩
              rw [hWn1] at FN FBS
              have HS5 := hide FN
              have HS5_b := hide FBS
              clear FN ecast FBS
              obtain ⟨Q, hQ⟩ : ∃ q, lessQ (ldn x ss N) p N i = q := ⟨_, rfl⟩
              have HQ := hide hQ
              have HQR : Hid (RS Q 100000000) := by rw [← hQ]; exact jk_small (unhide HRR) (one_le (fun j => by have := unhide HP4 j; omega) (by have := unhide HP4 i; omega)) hn3
              have HP5 : Hid (∀ j, Net.one p i z j ≤ 4) := one_le (unhide HP4) (by have a := unhide HZ; have := unhide HP4 i; omega)
              have HCL : Hid (∀ W, Below Wn1.heap.size Wn1 W → Calls Tryz.prog 11 #[.pointer (some ⟨b12, 0, none⟩), .pointer (some ⟨b14, 0, none⟩), .pointer (some ⟨b16, 0, none⟩)] W fun e w' => ∃ v, e = .returned v ∧ RatIs w' v (Q) ∧ Below W.heap.size W w') := by
                have h := (unhide HS5).call (unhide HV5) (unhide HN0) (by omega) (unhide HR0) (unhide HR1) (fun j => by have := unhide HP5 j; omega) (unhide HRR)
                rw [show Net.jk (ldn x ss N) (Net.one p i z) N = Q from by have a := unhide HZ; have b := unhide HQ; unfold lessQ at b; rw [a] at b; exact b] at h
                exact h
              have HM1 : Hid (∀ W v1, Below Wn1.heap.size Wn1 W → RatIs W v1 (Q) → Calls Tryz.prog 15 #[v1, .agg #[.bool ta.s, .slice ta.a1 ta.n1 ta.c1, .slice ta.a2 ta.n2 ta.c2]] W fun e w' => ∃ v, e = .returned v ∧ RatIs w' v (Q * bf qs i) ∧ Below W.heap.size W w') := fun W v1 hW hv1 => mulR_any v1 ta.val _ _ W hv1 (unhide HTA W (below_step (unhide HS5).bl hW)).2 6000000000 ((unhide HQR).mono (by omega)) ((unhide HRA i hlt).mono (by omega)) (by rw [KKe]; omega)
              have HAD : Hid (∀ W v2, Below Wn1.heap.size Wn1 W → RatIs W v2 (Q * bf qs i) → Calls Tryz.prog 14 #[.agg #[.bool t2.s, .slice t2.a1 t2.n1 t2.c1, .slice t2.a2 t2.n2 t2.c2], v2] W fun e w' => ∃ v, e = .returned v ∧ RatIs w' v (Bth.ps FI i + Q * bf qs i) ∧ Below W.heap.size W w') := fun W v2 hW hv2 => addR_any t2.val v2 _ _ W ((unhide HS5).x19.2.below hW) hv2 6000000000 ((unhide HRI).mono (by omega)) (((unhide HQR).mul (unhide HRA i hlt)).mono (by omega)) (by rw [KKe]; omega)
              have HCC : Hid (∀ W, Below Wn1.heap.size Wn1 W → (fun w' : World => (w'.cell? ⟨b19, 0, none⟩ = some (.bool t2.s) ∧ w'.cell? ⟨b19, 1, none⟩ = some (.slice t2.a1 t2.n1 t2.c1) ∧ w'.cell? ⟨b19, 2, none⟩ = some (.slice t2.a2 t2.n2 t2.c2)) ∧ (w'.cell? ⟨ba, oa + i * 3, none⟩ = some (.bool ta.s) ∧ w'.cell? ⟨ba, oa + i * 3 + 1, none⟩ = some (.slice ta.a1 ta.n1 ta.c1) ∧ w'.cell? ⟨ba, oa + i * 3 + 2, none⟩ = some (.slice ta.a2 ta.n2 ta.c2))) W) := fun W hW => by
                have bc := below_step (unhide HS5).bl hW
                exact ⟨(unhide HS5).x19.cells W hW, (unhide HTA W bc).1⟩
              clear hQ
              go_wp2_with fail
              clear k14 kn fn hWn1
              refine wp_region_till (fun w' : World => (w'.cell? ⟨b19, 0, none⟩ = some (.bool t2.s) ∧ w'.cell? ⟨b19, 1, none⟩ = some (.slice t2.a1 t2.n1 t2.c1) ∧ w'.cell? ⟨b19, 2, none⟩ = some (.slice t2.a2 t2.n2 t2.c2)) ∧ (w'.cell? ⟨ba, oa + i * 3, none⟩ = some (.bool ta.s) ∧ w'.cell? ⟨ba, oa + i * 3 + 1, none⟩ = some (.slice ta.a1 ta.n1 ta.c1) ∧ w'.cell? ⟨ba, oa + i * 3 + 2, none⟩ = some (.slice ta.a2 ta.n2 ta.c2))) 9 (by kernel_rfl) ?_
              have bd0 : Below Wn1.heap.size Wn1 Wn1.drew := (Below.refl _ _).drew
              have hC0 : (fun w' : World => (w'.cell? ⟨b19, 0, none⟩ = some (.bool t2.s) ∧ w'.cell? ⟨b19, 1, none⟩ = some (.slice t2.a1 t2.n1 t2.c1) ∧ w'.cell? ⟨b19, 2, none⟩ = some (.slice t2.a2 t2.n2 t2.c2)) ∧ (w'.cell? ⟨ba, oa + i * 3, none⟩ = some (.bool ta.s) ∧ w'.cell? ⟨ba, oa + i * 3 + 1, none⟩ = some (.slice ta.a1 ta.n1 ta.c1) ∧ w'.cell? ⟨ba, oa + i * 3 + 2, none⟩ = some (.slice ta.a2 ta.n2 ta.c2))) Wn1.drew := unhide HCC _ bd0
              refine wpTill_take (i := 0) (v := ?_) rfl (by kernel_rfl) (by kernel_rfl) (by kernel_rfl) (by kernel_rfl) (by kernel_rfl) (by kernel_rfl) (fun _ _ _ h => h) (Or.inl ⟨by rfl, ?_⟩) hC0 ?_
              rotate_left
              · intro w hSw; (try dsimp only at hSw); obtain ⟨⟨z0, z1, z2⟩, z3, z4, z5⟩ := hSw; go_simp; (try with_reducible rfl)
              (try simp only [List.getElem_toArray, List.getElem_cons_succ, List.getElem_cons_zero])
              (try simp only [Act.put, List.setIfInBounds_toArray, List.set_cons_zero, List.set_cons_succ])
              refine wpTill_pure (i := 1) (v := ?_) rfl (by kernel_rfl) (by kernel_rfl) (by kernel_rfl) (by kernel_rfl) (fun _ _ _ h => h) (Or.inl ⟨by rfl, ?_⟩) (fun _ => hC0) ?_
              rotate_left
              · intro w hSw; clear hSw; go_simp; (try with_reducible rfl)
              (try simp only [List.getElem_toArray, List.getElem_cons_succ, List.getElem_cons_zero])
              (try simp only [Act.put, List.setIfInBounds_toArray, List.set_cons_zero, List.set_cons_succ])
              refine wpTill_pure (i := 3) (v := ?_) rfl (by kernel_rfl) (by kernel_rfl) (by kernel_rfl) (by kernel_rfl) (fun _ _ _ h => h) (Or.inl ⟨by rfl, ?_⟩) (fun _ => hC0) ?_
              rotate_left
              · intro w hSw; clear hSw; go_simp; (try with_reducible rfl)
              (try simp only [List.getElem_toArray, List.getElem_cons_succ, List.getElem_cons_zero])
              (try simp only [Act.put, List.setIfInBounds_toArray, List.set_cons_zero, List.set_cons_succ])
              refine wpTill_pure (i := 4) (v := ?_) rfl (by kernel_rfl) (by kernel_rfl) (by kernel_rfl) (by kernel_rfl) (fun _ _ _ h => h) (Or.inl ⟨by rfl, ?_⟩) (fun _ => hC0) ?_
              rotate_left
              · intro w hSw; clear hSw; go_simp; (try with_reducible rfl)
              (try simp only [List.getElem_toArray, List.getElem_cons_succ, List.getElem_cons_zero])
              (try simp only [Act.put, List.setIfInBounds_toArray, List.set_cons_zero, List.set_cons_succ])
              refine wpTill_pure (i := 5) (v := ?_) rfl (by kernel_rfl) (by kernel_rfl) (by kernel_rfl) (by kernel_rfl) (fun _ _ _ h => h) (Or.inl ⟨by rfl, ?_⟩) (fun _ => hC0) ?_
              rotate_left
              · intro w hSw; clear hSw; go_simp; (try with_reducible rfl)
              (try simp only [List.getElem_toArray, List.getElem_cons_succ, List.getElem_cons_zero])
              (try simp only [Act.put, List.setIfInBounds_toArray, List.set_cons_zero, List.set_cons_succ])
              refine wpTill_take (i := 6) (v := ?_) rfl (by kernel_rfl) (by kernel_rfl) (by kernel_rfl) (by kernel_rfl) (by kernel_rfl) (by kernel_rfl) (fun _ _ _ h => h) (Or.inl ⟨by rfl, ?_⟩) hC0 ?_
              rotate_left
              · intro w hSw; (try dsimp only at hSw); obtain ⟨⟨z0, z1, z2⟩, z3, z4, z5⟩ := hSw; go_simp; (try with_reducible rfl)
              (try simp only [List.getElem_toArray, List.getElem_cons_succ, List.getElem_cons_zero])
              (try simp only [Act.put, List.setIfInBounds_toArray, List.set_cons_zero, List.set_cons_succ])
              refine wpTill_one (k := 2) (by kernel_rfl) rfl (fun K hK => ?_)
              (try simp only [List.getElem_toArray, List.getElem_cons_succ, List.getElem_cons_zero])
              go_simp
              refine (unhide HCL _ bd0).mono ?_
              rintro e xw_1 ⟨xv_1, rfl, hv_1, hb_1⟩
              have cc_1 := below_step bd0 hb_1
              have hC_1 : (fun w' : World => (w'.cell? ⟨b19, 0, none⟩ = some (.bool t2.s) ∧ w'.cell? ⟨b19, 1, none⟩ = some (.slice t2.a1 t2.n1 t2.c1) ∧ w'.cell? ⟨b19, 2, none⟩ = some (.slice t2.a2 t2.n2 t2.c2)) ∧ (w'.cell? ⟨ba, oa + i * 3, none⟩ = some (.bool ta.s) ∧ w'.cell? ⟨ba, oa + i * 3 + 1, none⟩ = some (.slice ta.a1 ta.n1 ta.c1) ∧ w'.cell? ⟨ba, oa + i * 3 + 2, none⟩ = some (.slice ta.a2 ta.n2 ta.c2))) xw_1 := unhide HCC _ cc_1
              refine hK.out _ _ (fun _ => hC_1) ?_
              clear hK K
              (try simp only [Act.put, List.setIfInBounds_toArray, List.set_cons_zero, List.set_cons_succ])
              refine wpTill_one (k := 7) (by kernel_rfl) rfl (fun K hK => ?_)
              (try simp only [List.getElem_toArray, List.getElem_cons_succ, List.getElem_cons_zero])
              go_simp
              refine (unhide HM1 _ _ cc_1 hv_1).mono ?_
              rintro e xw_2 ⟨xv_2, rfl, hv_2, hb_2⟩
              have cc_2 := below_step cc_1 hb_2
              have hC_2 : (fun w' : World => (w'.cell? ⟨b19, 0, none⟩ = some (.bool t2.s) ∧ w'.cell? ⟨b19, 1, none⟩ = some (.slice t2.a1 t2.n1 t2.c1) ∧ w'.cell? ⟨b19, 2, none⟩ = some (.slice t2.a2 t2.n2 t2.c2)) ∧ (w'.cell? ⟨ba, oa + i * 3, none⟩ = some (.bool ta.s) ∧ w'.cell? ⟨ba, oa + i * 3 + 1, none⟩ = some (.slice ta.a1 ta.n1 ta.c1) ∧ w'.cell? ⟨ba, oa + i * 3 + 2, none⟩ = some (.slice ta.a2 ta.n2 ta.c2))) xw_2 := unhide HCC _ cc_2
              refine hK.out _ _ (fun _ => hC_2) ?_
              clear hK K
              (try simp only [Act.put, List.setIfInBounds_toArray, List.set_cons_zero, List.set_cons_succ])
              refine wpTill_one (k := 8) (by kernel_rfl) rfl (fun K hK => ?_)
              (try simp only [List.getElem_toArray, List.getElem_cons_succ, List.getElem_cons_zero])
              go_simp
              refine (unhide HAD _ _ cc_2 hv_2).mono ?_
              rintro e xw_3 ⟨xv_3, rfl, hv_3, hb_3⟩
              have cc_3 := below_step cc_2 hb_3
              have hC_3 : (fun w' : World => (w'.cell? ⟨b19, 0, none⟩ = some (.bool t2.s) ∧ w'.cell? ⟨b19, 1, none⟩ = some (.slice t2.a1 t2.n1 t2.c1) ∧ w'.cell? ⟨b19, 2, none⟩ = some (.slice t2.a2 t2.n2 t2.c2)) ∧ (w'.cell? ⟨ba, oa + i * 3, none⟩ = some (.bool ta.s) ∧ w'.cell? ⟨ba, oa + i * 3 + 1, none⟩ = some (.slice ta.a1 ta.n1 ta.c1) ∧ w'.cell? ⟨ba, oa + i * 3 + 2, none⟩ = some (.slice ta.a2 ta.n2 ta.c2))) xw_3 := unhide HCC _ cc_3
              refine hK.out _ _ (fun _ => hC_3) ?_
              clear hK K
              (try simp only [Act.put, List.setIfInBounds_toArray, List.set_cons_zero, List.set_cons_succ])
              obtain ⟨ti1, rfl, rn⟩ := tri_of hv_3
              simp only [Tri.val]
              have S8 := (unhide HS5).keep cc_3
              have ⟨l0, l1, l2⟩ := S8.x19.free
              have ⟨y0, y1, y2⟩ := S8.x19.cells _ (Below.refl _ _)
              have FN := S8.setInto ti1 _ rn
              have FBS := ((unhide HS5_b).keep cc_3).other S8.x19 (by have a := unhide HLB; have h6 := S8.o6; have h7 := S8.o7; omega) (.bool ti1.s) (.slice ti1.a1 ti1.n1 ti1.c1) (.slice ti1.a2 ti1.n2 ti1.c2)
              obtain ⟨Wi1, hWi1⟩ : ∃ W, ((xw_3.setCell ⟨b19, 0, none⟩ (.bool ti1.s)).setCell ⟨b19, 1, none⟩ (.slice ti1.a1 ti1.n1 ti1.c1)).setCell ⟨b19, 2, none⟩ (.slice ti1.a2 ti1.n2 ti1.c2) = W := ⟨_, rfl⟩
              rw [hWi1] at FN FBS
              have HS6 := hide FN
              have HS6_b := hide FBS
              clear S8 FN rn FBS hv_1 hb_1 hv_2 hb_2 hv_3 hb_3
              refine wpTill_one (k := 9) (by kernel_rfl) rfl (fun K hK => ?_)
              (try simp only [List.getElem_toArray, List.getElem_cons_succ, List.getElem_cons_zero])
              go_simp
              refine hK.out _ _ (fun h => absurd (h.symm.trans (by kernel_rfl)) Bool.false_ne_true) ?_
              clear hK K
              (try simp only [Act.put, List.setIfInBounds_toArray, List.set_cons_zero, List.set_cons_succ])
              refine wpTill_done (by kernel_rfl) ?_ _
              clear l0 l1 l2 y0 y1 y2 hWi1 hC0 hC_1 cc_1 hC_2 cc_2 hC_3 cc_3 bd0 HCC HCL HM1 HAD HS5 HS5_b HS4 HS4_b
              have HRI1 : Hid (RS (Bth.ps FI i + Q * bf qs i + Bth.ps (gIn Q (ldn x ss N) (bf ss) (lf ks) i) 0) (i * 1000000000 + 1 + (0 + 1) * 200000000)) := by
                show RS (_ + 0) _
                rw [Rat.add_zero]
                exact ((unhide HRI).add ((unhide HQR).mul (unhide HRA i hlt))).mono (by omega)
              have HS6' : Hid (NetS w5 Wi1 b12 gn b14 b16 b18 b19 b20 N c5 a5 (Net.one p i z) to2 ti1 th (Bth.ps FO i + P * bf qs i + P * bf ss i * (1 - lf ks i i)) (Bth.ps FI i + Q * bf qs i + Bth.ps (gIn Q (ldn x ss N) (bf ss) (lf ks) i) 0) P) := by
                show NetS w5 Wi1 b12 gn b14 b16 b18 b19 b20 N c5 a5 (Net.one p i z) to2 ti1 th _ (_ + 0) P
                rw [Rat.add_zero]
                exact unhide HS6
              clear HS6
              go_wp2_with fail
              go_loopw [23] (fun vk wr => ∃ (k : Nat) (t2 : Tri), vk = .int .i64 (k : Int) ∧ k ≤ N ∧ NetS w5 wr b12 gn b14 b16 b18 b19 b20 N c5 a5 (Net.one p i z) to2 t2 th (Bth.ps FO i + P * bf qs i + P * bf ss i * (1 - lf ks i i)) (Bth.ps FI i + Q * bf qs i + Bth.ps (gIn Q (ldn x ss N) (bf ss) (lf ks) i) k) P ∧ BoxIs wr bs tst (1 - SI) ∧ RS (Bth.ps FI i + Q * bf qs i + Bth.ps (gIn Q (ldn x ss N) (bf ss) (lf ks) i) k) (i * 1000000000 + 1 + (k + 1) * 200000000)) (fun vk _ => N - (intOf vk).toNat)
              case atStart => exact ⟨0, _, rfl, Nat.zero_le _, unhide HS6', unhide HS6_b, unhide HRI1⟩
              case round =>
                obtain ⟨k, tk, rfl, hk, hS, hB, hrk⟩ := hrel
                clear HS6' HS6_b HRI1
                have HSK := hide hS
                have HBK := hide hB
                have HRK := hide hrk
                have k14 := hS.k14
                by_cases hltk : k < N
                · have e10 : (k : Int) < (N : Int) := by omega
                  have e11 : (0 : Int) ≤ (k : Int) := by omega
                  by_cases hki : k = i
                  · have e12 : ((k : Int) == (i : Int)) = true := by rw [beq_iff_eq]; omega
                    have eg : Bth.ps (gIn Q (ldn x ss N) (bf ss) (lf ks) i) (k + 1) = Bth.ps (gIn Q (ldn x ss N) (bf ss) (lf ks) i) k := by
                      show Bth.ps _ k + gIn _ _ _ _ i k = _
                      unfold gIn
                      rw [if_pos hki, Rat.add_zero]
                    have HEG := hide eg
                    clear hS hB hrk hki eg
                    go_wp2_with fail
                    refine ⟨⟨k + 1, tk, by go_num, hltk, ?_, unhide HBK, ?_⟩, by simp [intOf]; omega⟩
                    · rw [unhide HEG]; exact unhide HSK
                    · rw [unhide HEG]; exact (unhide HRK).mono (by omega)
                  · have e12 : ((k : Int) == (i : Int)) = false := by rw [beq_eq_false_iff_ne]; omega
                    obtain ⟨tmk, htmk⟩ := unhide HDM k hltk
                    obtain ⟨bK, oK, cK, hhdk, hrdk⟩ := unhide HDR k hltk
                    obtain ⟨tki, htki⟩ := hrdk i hlt
                    have HTMK := hide htmk
                    have HHDK := hide hhdk
                    have HTKI : Hid (∀ W, Below w5.heap.size w5 W → (W.cell? ⟨bK, oK + i * 3, none⟩ = some (.bool tki.s) ∧ W.cell? ⟨bK, oK + i * 3 + 1, none⟩ = some (.slice tki.a1 tki.n1 tki.c1) ∧ W.cell? ⟨bK, oK + i * 3 + 2, none⟩ = some (.slice tki.a2 tki.n2 tki.c2)) ∧ RatIs W tki.val (lf ks k i)) := htki
                    have HKI := hide hki
                    have HPK : Hid (Net.one p i z k = p k) := one_far p hki
                    obtain ⟨Y, hY⟩ : ∃ Y : Int, ((p k : Nat) : Int) = Y := ⟨_, rfl⟩
                    have HYE := hide hY
                    have hY0 : 0 ≤ Y := by omega
                    have hY4 : Y ≤ 4 := by have := unhide HP4 k; omega
                    clear htmk hhdk hrdk htki hki hY hS hB hrk k14
                    have k14 := (unhide HSK).k14
                    have ⟨kn, fn⟩ := (unhide HSK).kn (j := k) (by omega)
                    rw [unhide HPK, unhide HYE] at kn
                    have FN := (unhide HSK).setN k (p k + 1)
                    have FBS := (unhide HBK).ints (j := k) (x := ((p k + 1 : Nat) : Int)) (unhide HSK).cn (by have a := unhide HLB; have h3 := (unhide HSK).o3; have h4 := (unhide HSK).o4; have h5 := (unhide HSK).o5; have h6 := (unhide HSK).o6; have h7 := (unhide HSK).o7; omega)
                    have ecast : ((p k + 1 : Nat) : Int) = Y + 1 := by have a := unhide HYE; omega
                    rw [ecast] at FN FBS
                    obtain ⟨Wk1, hWk1⟩ : ∃ W, wr.setCell ⟨gn, k, none⟩ (.int .i64 (Y + 1)) = W := ⟨_, rfl⟩
                    rw [hWk1] at FN FBS
                    have HSK1 := hide FN
                    have HSK1_b := hide FBS
                    clear FN ecast FBS
                    have HCL : Hid (∀ W, Below Wk1.heap.size Wk1 W → Calls Tryz.prog 11 #[.pointer (some ⟨b12, 0, none⟩), .pointer (some ⟨b14, 0, none⟩), .pointer (some ⟨b16, 0, none⟩)] W fun e w' => ∃ v, e = .returned v ∧ RatIs w' v (Q * ldn x ss N k) ∧ Below W.heap.size W w') := by
                      have h := (unhide HSK1).call (unhide HV5) (unhide HN0) (by omega) (unhide HR0) (unhide HR1) (fun j => by have a := one_le (i := k) (v := p k + 1) (fun j => Nat.le_trans (unhide HP5 j) (show 4 ≤ 6 by omega)) (by have := unhide HP4 k; omega) j; exact a) (unhide HRR)
                      rw [show Net.jk (ldn x ss N) (Net.one (Net.one p i z) k (p k + 1)) N = Q * ldn x ss N k from by rw [Net.jk_more (n := Net.one p i z) (i := k) N hltk (fun j hj => one_far _ hj) (by rw [one_get, unhide HPK])]; have a := unhide HZ; have b := unhide HQ; unfold lessQ at b; rw [a] at b; rw [← b]; rfl] at h
                      exact h
                    have HM1 : Hid (∀ W v1, Below Wk1.heap.size Wk1 W → RatIs W v1 (Q * ldn x ss N k) → Calls Tryz.prog 15 #[v1, .agg #[.bool tmk.s, .slice tmk.a1 tmk.n1 tmk.c1, .slice tmk.a2 tmk.n2 tmk.c2]] W fun e w' => ∃ v, e = .returned v ∧ RatIs w' v (Q * ldn x ss N k * bf ss k) ∧ Below W.heap.size W w') := fun W v1 hW hv1 => mulR_any v1 tmk.val _ _ W hv1 (unhide HTMK W (below_step (unhide HSK1).bl hW)).2 6000000000 (((unhide HQR).mul (unhide HRR k)).mono (by have : XB = 4000000 := rfl; omega)) ((unhide HRS k hltk).mono (by omega)) (by rw [KKe]; omega)
                    have HM2 : Hid (∀ W v1, Below Wk1.heap.size Wk1 W → RatIs W v1 (Q * ldn x ss N k * bf ss k) → Calls Tryz.prog 15 #[v1, .agg #[.bool tki.s, .slice tki.a1 tki.n1 tki.c1, .slice tki.a2 tki.n2 tki.c2]] W fun e w' => ∃ v, e = .returned v ∧ RatIs w' v (Q * ldn x ss N k * bf ss k * lf ks k i) ∧ Below W.heap.size W w') := fun W v1 hW hv1 => mulR_any v1 tki.val _ _ W hv1 (unhide HTKI W (below_step (unhide HSK1).bl hW)).2 6000000000 ((((unhide HQR).mul (unhide HRR k)).mul (unhide HRS k hltk)).mono (by have : XB = 4000000 := rfl; omega)) ((unhide HRL k i hltk hlt).mono (by omega)) (by rw [KKe]; omega)
                    have HAD : Hid (∀ W v2, Below Wk1.heap.size Wk1 W → RatIs W v2 (Q * ldn x ss N k * bf ss k * lf ks k i) → Calls Tryz.prog 14 #[.agg #[.bool tk.s, .slice tk.a1 tk.n1 tk.c1, .slice tk.a2 tk.n2 tk.c2], v2] W fun e w' => ∃ v, e = .returned v ∧ RatIs w' v (Bth.ps FI i + Q * bf qs i + Bth.ps (gIn Q (ldn x ss N) (bf ss) (lf ks) i) k + Q * ldn x ss N k * bf ss k * lf ks k i) ∧ Below W.heap.size W w') := fun W v2 hW hv2 => addR_any tk.val v2 _ _ W ((unhide HSK1).x19.2.below hW) hv2 6000000000 ((unhide HRK).mono (by omega)) (((((unhide HQR).mul (unhide HRR k)).mul (unhide HRS k hltk)).mul (unhide HRL k i hltk hlt)).mono (by have : XB = 4000000 := rfl; omega)) (by rw [KKe]; omega)
                    have HCC : Hid (∀ W, Below Wk1.heap.size Wk1 W → (fun w' : World => (w'.cell? ⟨b19, 0, none⟩ = some (.bool tk.s) ∧ w'.cell? ⟨b19, 1, none⟩ = some (.slice tk.a1 tk.n1 tk.c1) ∧ w'.cell? ⟨b19, 2, none⟩ = some (.slice tk.a2 tk.n2 tk.c2)) ∧ (w'.cell? ⟨bm, om + k * 3, none⟩ = some (.bool tmk.s) ∧ w'.cell? ⟨bm, om + k * 3 + 1, none⟩ = some (.slice tmk.a1 tmk.n1 tmk.c1) ∧ w'.cell? ⟨bm, om + k * 3 + 2, none⟩ = some (.slice tmk.a2 tmk.n2 tmk.c2)) ∧ w'.cell? ⟨bR, oR + k, none⟩ = some (.slice (some ⟨bK, oK, none⟩) N cK) ∧ (w'.cell? ⟨bK, oK + i * 3, none⟩ = some (.bool tki.s) ∧ w'.cell? ⟨bK, oK + i * 3 + 1, none⟩ = some (.slice tki.a1 tki.n1 tki.c1) ∧ w'.cell? ⟨bK, oK + i * 3 + 2, none⟩ = some (.slice tki.a2 tki.n2 tki.c2))) W) := fun W hW => by
                      have bc := below_step (unhide HSK1).bl hW
                      exact ⟨(unhide HSK1).x19.cells W hW, (unhide HTMK W bc).1, (unhide HHDK W bc).1, (unhide HTKI W bc).1⟩
                    go_wp2_with fail
                    clear k14 kn fn hWk1
                    refine wp_region_till (fun w' : World => (w'.cell? ⟨b19, 0, none⟩ = some (.bool tk.s) ∧ w'.cell? ⟨b19, 1, none⟩ = some (.slice tk.a1 tk.n1 tk.c1) ∧ w'.cell? ⟨b19, 2, none⟩ = some (.slice tk.a2 tk.n2 tk.c2)) ∧ (w'.cell? ⟨bm, om + k * 3, none⟩ = some (.bool tmk.s) ∧ w'.cell? ⟨bm, om + k * 3 + 1, none⟩ = some (.slice tmk.a1 tmk.n1 tmk.c1) ∧ w'.cell? ⟨bm, om + k * 3 + 2, none⟩ = some (.slice tmk.a2 tmk.n2 tmk.c2)) ∧ w'.cell? ⟨bR, oR + k, none⟩ = some (.slice (some ⟨bK, oK, none⟩) N cK) ∧ (w'.cell? ⟨bK, oK + i * 3, none⟩ = some (.bool tki.s) ∧ w'.cell? ⟨bK, oK + i * 3 + 1, none⟩ = some (.slice tki.a1 tki.n1 tki.c1) ∧ w'.cell? ⟨bK, oK + i * 3 + 2, none⟩ = some (.slice tki.a2 tki.n2 tki.c2))) 17 (by kernel_rfl) ?_
                    have bd0 : Below Wk1.heap.size Wk1 Wk1.drew := (Below.refl _ _).drew
                    have hC0 : (fun w' : World => (w'.cell? ⟨b19, 0, none⟩ = some (.bool tk.s) ∧ w'.cell? ⟨b19, 1, none⟩ = some (.slice tk.a1 tk.n1 tk.c1) ∧ w'.cell? ⟨b19, 2, none⟩ = some (.slice tk.a2 tk.n2 tk.c2)) ∧ (w'.cell? ⟨bm, om + k * 3, none⟩ = some (.bool tmk.s) ∧ w'.cell? ⟨bm, om + k * 3 + 1, none⟩ = some (.slice tmk.a1 tmk.n1 tmk.c1) ∧ w'.cell? ⟨bm, om + k * 3 + 2, none⟩ = some (.slice tmk.a2 tmk.n2 tmk.c2)) ∧ w'.cell? ⟨bR, oR + k, none⟩ = some (.slice (some ⟨bK, oK, none⟩) N cK) ∧ (w'.cell? ⟨bK, oK + i * 3, none⟩ = some (.bool tki.s) ∧ w'.cell? ⟨bK, oK + i * 3 + 1, none⟩ = some (.slice tki.a1 tki.n1 tki.c1) ∧ w'.cell? ⟨bK, oK + i * 3 + 2, none⟩ = some (.slice tki.a2 tki.n2 tki.c2))) Wk1.drew := unhide HCC _ bd0
                    refine wpTill_take (i := 0) (v := ?_) rfl (by kernel_rfl) (by kernel_rfl) (by kernel_rfl) (by kernel_rfl) (by kernel_rfl) (by kernel_rfl) (fun _ _ _ h => h) (Or.inl ⟨by rfl, ?_⟩) hC0 ?_
                    rotate_left
                    · intro w hSw; (try dsimp only at hSw); obtain ⟨⟨z0, z1, z2⟩, ⟨z3, z4, z5⟩, z6, z7, z8, z9⟩ := hSw; go_simp; (try with_reducible rfl)
                    (try simp only [List.getElem_toArray, List.getElem_cons_succ, List.getElem_cons_zero])
                    (try simp only [Act.put, List.setIfInBounds_toArray, List.set_cons_zero, List.set_cons_succ])
                    refine wpTill_pure (i := 1) (v := ?_) rfl (by kernel_rfl) (by kernel_rfl) (by kernel_rfl) (by kernel_rfl) (fun _ _ _ h => h) (Or.inl ⟨by rfl, ?_⟩) (fun _ => hC0) ?_
                    rotate_left
                    · intro w hSw; clear hSw; go_simp; (try with_reducible rfl)
                    (try simp only [List.getElem_toArray, List.getElem_cons_succ, List.getElem_cons_zero])
                    (try simp only [Act.put, List.setIfInBounds_toArray, List.set_cons_zero, List.set_cons_succ])
                    refine wpTill_pure (i := 3) (v := ?_) rfl (by kernel_rfl) (by kernel_rfl) (by kernel_rfl) (by kernel_rfl) (fun _ _ _ h => h) (Or.inl ⟨by rfl, ?_⟩) (fun _ => hC0) ?_
                    rotate_left
                    · intro w hSw; clear hSw; go_simp; (try with_reducible rfl)
                    (try simp only [List.getElem_toArray, List.getElem_cons_succ, List.getElem_cons_zero])
                    (try simp only [Act.put, List.setIfInBounds_toArray, List.set_cons_zero, List.set_cons_succ])
                    refine wpTill_pure (i := 4) (v := ?_) rfl (by kernel_rfl) (by kernel_rfl) (by kernel_rfl) (by kernel_rfl) (fun _ _ _ h => h) (Or.inl ⟨by rfl, ?_⟩) (fun _ => hC0) ?_
                    rotate_left
                    · intro w hSw; clear hSw; go_simp; (try with_reducible rfl)
                    (try simp only [List.getElem_toArray, List.getElem_cons_succ, List.getElem_cons_zero])
                    (try simp only [Act.put, List.setIfInBounds_toArray, List.set_cons_zero, List.set_cons_succ])
                    refine wpTill_pure (i := 5) (v := ?_) rfl (by kernel_rfl) (by kernel_rfl) (by kernel_rfl) (by kernel_rfl) (fun _ _ _ h => h) (Or.inl ⟨by rfl, ?_⟩) (fun _ => hC0) ?_
                    rotate_left
                    · intro w hSw; clear hSw; go_simp; (try with_reducible rfl)
                    (try simp only [List.getElem_toArray, List.getElem_cons_succ, List.getElem_cons_zero])
                    (try simp only [Act.put, List.setIfInBounds_toArray, List.set_cons_zero, List.set_cons_succ])
                    refine wpTill_take (i := 6) (v := ?_) rfl (by kernel_rfl) (by kernel_rfl) (by kernel_rfl) (by kernel_rfl) (by kernel_rfl) (by kernel_rfl) (fun _ _ _ h => h) (Or.inl ⟨by rfl, ?_⟩) hC0 ?_
                    rotate_left
                    · intro w hSw; (try dsimp only at hSw); obtain ⟨⟨z0, z1, z2⟩, ⟨z3, z4, z5⟩, z6, z7, z8, z9⟩ := hSw; go_simp; (try with_reducible rfl)
                    (try simp only [List.getElem_toArray, List.getElem_cons_succ, List.getElem_cons_zero])
                    (try simp only [Act.put, List.setIfInBounds_toArray, List.set_cons_zero, List.set_cons_succ])
                    refine wpTill_pure (i := 8) (v := ?_) rfl (by kernel_rfl) (by kernel_rfl) (by kernel_rfl) (by kernel_rfl) (fun _ _ _ h => h) (Or.inl ⟨by rfl, ?_⟩) (fun _ => hC0) ?_
                    rotate_left
                    · intro w hSw; clear hSw; go_simp; (try with_reducible rfl)
                    (try simp only [List.getElem_toArray, List.getElem_cons_succ, List.getElem_cons_zero])
                    (try simp only [Act.put, List.setIfInBounds_toArray, List.set_cons_zero, List.set_cons_succ])
                    refine wpTill_pure (i := 9) (v := ?_) rfl (by kernel_rfl) (by kernel_rfl) (by kernel_rfl) (by kernel_rfl) (fun _ _ _ h => h) (Or.inl ⟨by rfl, ?_⟩) (fun _ => hC0) ?_
                    rotate_left
                    · intro w hSw; clear hSw; go_simp; (try with_reducible rfl)
                    (try simp only [List.getElem_toArray, List.getElem_cons_succ, List.getElem_cons_zero])
                    (try simp only [Act.put, List.setIfInBounds_toArray, List.set_cons_zero, List.set_cons_succ])
                    refine wpTill_pure (i := 10) (v := ?_) rfl (by kernel_rfl) (by kernel_rfl) (by kernel_rfl) (by kernel_rfl) (fun _ _ _ h => h) (Or.inl ⟨by rfl, ?_⟩) (fun _ => hC0) ?_
                    rotate_left
                    · intro w hSw; clear hSw; go_simp; (try with_reducible rfl)
                    (try simp only [List.getElem_toArray, List.getElem_cons_succ, List.getElem_cons_zero])
                    (try simp only [Act.put, List.setIfInBounds_toArray, List.set_cons_zero, List.set_cons_succ])
                    refine wpTill_take (i := 11) (v := ?_) rfl (by kernel_rfl) (by kernel_rfl) (by kernel_rfl) (by kernel_rfl) (by kernel_rfl) (by kernel_rfl) (fun _ _ _ h => h) (Or.inl ⟨by rfl, ?_⟩) hC0 ?_
                    rotate_left
                    · intro w hSw; (try dsimp only at hSw); obtain ⟨⟨z0, z1, z2⟩, ⟨z3, z4, z5⟩, z6, z7, z8, z9⟩ := hSw; go_simp; (try with_reducible rfl)
                    (try simp only [List.getElem_toArray, List.getElem_cons_succ, List.getElem_cons_zero])
                    (try simp only [Act.put, List.setIfInBounds_toArray, List.set_cons_zero, List.set_cons_succ])
                    refine wpTill_pure (i := 12) (v := ?_) rfl (by kernel_rfl) (by kernel_rfl) (by kernel_rfl) (by kernel_rfl) (fun _ _ _ h => h) (Or.inl ⟨by rfl, ?_⟩) (fun _ => hC0) ?_
                    rotate_left
                    · intro w hSw; clear hSw; go_simp; (try with_reducible rfl)
                    (try simp only [List.getElem_toArray, List.getElem_cons_succ, List.getElem_cons_zero])
                    (try simp only [Act.put, List.setIfInBounds_toArray, List.set_cons_zero, List.set_cons_succ])
                    refine wpTill_pure (i := 13) (v := ?_) rfl (by kernel_rfl) (by kernel_rfl) (by kernel_rfl) (by kernel_rfl) (fun _ _ _ h => h) (Or.inl ⟨by rfl, ?_⟩) (fun _ => hC0) ?_
                    rotate_left
                    · intro w hSw; clear hSw; go_simp; (try with_reducible rfl)
                    (try simp only [List.getElem_toArray, List.getElem_cons_succ, List.getElem_cons_zero])
                    (try simp only [Act.put, List.setIfInBounds_toArray, List.set_cons_zero, List.set_cons_succ])
                    refine wpTill_take (i := 14) (v := ?_) rfl (by kernel_rfl) (by kernel_rfl) (by kernel_rfl) (by kernel_rfl) (by kernel_rfl) (by kernel_rfl) (fun _ _ _ h => h) (Or.inl ⟨by rfl, ?_⟩) hC0 ?_
                    rotate_left
                    · intro w hSw; (try dsimp only at hSw); obtain ⟨⟨z0, z1, z2⟩, ⟨z3, z4, z5⟩, z6, z7, z8, z9⟩ := hSw; go_simp; (try with_reducible rfl)
                    (try simp only [List.getElem_toArray, List.getElem_cons_succ, List.getElem_cons_zero])
                    (try simp only [Act.put, List.setIfInBounds_toArray, List.set_cons_zero, List.set_cons_succ])
                    refine wpTill_one (k := 2) (by kernel_rfl) rfl (fun K hK => ?_)
                    (try simp only [List.getElem_toArray, List.getElem_cons_succ, List.getElem_cons_zero])
                    go_simp
                    refine (unhide HCL _ bd0).mono ?_
                    rintro e xw_1 ⟨xv_1, rfl, hv_1, hb_1⟩
                    have cc_1 := below_step bd0 hb_1
                    have hC_1 : (fun w' : World => (w'.cell? ⟨b19, 0, none⟩ = some (.bool tk.s) ∧ w'.cell? ⟨b19, 1, none⟩ = some (.slice tk.a1 tk.n1 tk.c1) ∧ w'.cell? ⟨b19, 2, none⟩ = some (.slice tk.a2 tk.n2 tk.c2)) ∧ (w'.cell? ⟨bm, om + k * 3, none⟩ = some (.bool tmk.s) ∧ w'.cell? ⟨bm, om + k * 3 + 1, none⟩ = some (.slice tmk.a1 tmk.n1 tmk.c1) ∧ w'.cell? ⟨bm, om + k * 3 + 2, none⟩ = some (.slice tmk.a2 tmk.n2 tmk.c2)) ∧ w'.cell? ⟨bR, oR + k, none⟩ = some (.slice (some ⟨bK, oK, none⟩) N cK) ∧ (w'.cell? ⟨bK, oK + i * 3, none⟩ = some (.bool tki.s) ∧ w'.cell? ⟨bK, oK + i * 3 + 1, none⟩ = some (.slice tki.a1 tki.n1 tki.c1) ∧ w'.cell? ⟨bK, oK + i * 3 + 2, none⟩ = some (.slice tki.a2 tki.n2 tki.c2))) xw_1 := unhide HCC _ cc_1
                    refine hK.out _ _ (fun _ => hC_1) ?_
                    clear hK K
                    (try simp only [Act.put, List.setIfInBounds_toArray, List.set_cons_zero, List.set_cons_succ])
                    refine wpTill_one (k := 7) (by kernel_rfl) rfl (fun K hK => ?_)
                    (try simp only [List.getElem_toArray, List.getElem_cons_succ, List.getElem_cons_zero])
                    go_simp
                    refine (unhide HM1 _ _ cc_1 hv_1).mono ?_
                    rintro e xw_2 ⟨xv_2, rfl, hv_2, hb_2⟩
                    have cc_2 := below_step cc_1 hb_2
                    have hC_2 : (fun w' : World => (w'.cell? ⟨b19, 0, none⟩ = some (.bool tk.s) ∧ w'.cell? ⟨b19, 1, none⟩ = some (.slice tk.a1 tk.n1 tk.c1) ∧ w'.cell? ⟨b19, 2, none⟩ = some (.slice tk.a2 tk.n2 tk.c2)) ∧ (w'.cell? ⟨bm, om + k * 3, none⟩ = some (.bool tmk.s) ∧ w'.cell? ⟨bm, om + k * 3 + 1, none⟩ = some (.slice tmk.a1 tmk.n1 tmk.c1) ∧ w'.cell? ⟨bm, om + k * 3 + 2, none⟩ = some (.slice tmk.a2 tmk.n2 tmk.c2)) ∧ w'.cell? ⟨bR, oR + k, none⟩ = some (.slice (some ⟨bK, oK, none⟩) N cK) ∧ (w'.cell? ⟨bK, oK + i * 3, none⟩ = some (.bool tki.s) ∧ w'.cell? ⟨bK, oK + i * 3 + 1, none⟩ = some (.slice tki.a1 tki.n1 tki.c1) ∧ w'.cell? ⟨bK, oK + i * 3 + 2, none⟩ = some (.slice tki.a2 tki.n2 tki.c2))) xw_2 := unhide HCC _ cc_2
                    refine hK.out _ _ (fun _ => hC_2) ?_
                    clear hK K
                    (try simp only [Act.put, List.setIfInBounds_toArray, List.set_cons_zero, List.set_cons_succ])
                    refine wpTill_one (k := 15) (by kernel_rfl) rfl (fun K hK => ?_)
                    (try simp only [List.getElem_toArray, List.getElem_cons_succ, List.getElem_cons_zero])
                    go_simp
                    refine (unhide HM2 _ _ cc_2 hv_2).mono ?_
                    rintro e xw_3 ⟨xv_3, rfl, hv_3, hb_3⟩
                    have cc_3 := below_step cc_2 hb_3
                    have hC_3 : (fun w' : World => (w'.cell? ⟨b19, 0, none⟩ = some (.bool tk.s) ∧ w'.cell? ⟨b19, 1, none⟩ = some (.slice tk.a1 tk.n1 tk.c1) ∧ w'.cell? ⟨b19, 2, none⟩ = some (.slice tk.a2 tk.n2 tk.c2)) ∧ (w'.cell? ⟨bm, om + k * 3, none⟩ = some (.bool tmk.s) ∧ w'.cell? ⟨bm, om + k * 3 + 1, none⟩ = some (.slice tmk.a1 tmk.n1 tmk.c1) ∧ w'.cell? ⟨bm, om + k * 3 + 2, none⟩ = some (.slice tmk.a2 tmk.n2 tmk.c2)) ∧ w'.cell? ⟨bR, oR + k, none⟩ = some (.slice (some ⟨bK, oK, none⟩) N cK) ∧ (w'.cell? ⟨bK, oK + i * 3, none⟩ = some (.bool tki.s) ∧ w'.cell? ⟨bK, oK + i * 3 + 1, none⟩ = some (.slice tki.a1 tki.n1 tki.c1) ∧ w'.cell? ⟨bK, oK + i * 3 + 2, none⟩ = some (.slice tki.a2 tki.n2 tki.c2))) xw_3 := unhide HCC _ cc_3
                    refine hK.out _ _ (fun _ => hC_3) ?_
                    clear hK K
                    (try simp only [Act.put, List.setIfInBounds_toArray, List.set_cons_zero, List.set_cons_succ])
                    refine wpTill_one (k := 16) (by kernel_rfl) rfl (fun K hK => ?_)
                    (try simp only [List.getElem_toArray, List.getElem_cons_succ, List.getElem_cons_zero])
                    go_simp
                    refine (unhide HAD _ _ cc_3 hv_3).mono ?_
                    rintro e xw_4 ⟨xv_4, rfl, hv_4, hb_4⟩
                    have cc_4 := below_step cc_3 hb_4
                    have hC_4 : (fun w' : World => (w'.cell? ⟨b19, 0, none⟩ = some (.bool tk.s) ∧ w'.cell? ⟨b19, 1, none⟩ = some (.slice tk.a1 tk.n1 tk.c1) ∧ w'.cell? ⟨b19, 2, none⟩ = some (.slice tk.a2 tk.n2 tk.c2)) ∧ (w'.cell? ⟨bm, om + k * 3, none⟩ = some (.bool tmk.s) ∧ w'.cell? ⟨bm, om + k * 3 + 1, none⟩ = some (.slice tmk.a1 tmk.n1 tmk.c1) ∧ w'.cell? ⟨bm, om + k * 3 + 2, none⟩ = some (.slice tmk.a2 tmk.n2 tmk.c2)) ∧ w'.cell? ⟨bR, oR + k, none⟩ = some (.slice (some ⟨bK, oK, none⟩) N cK) ∧ (w'.cell? ⟨bK, oK + i * 3, none⟩ = some (.bool tki.s) ∧ w'.cell? ⟨bK, oK + i * 3 + 1, none⟩ = some (.slice tki.a1 tki.n1 tki.c1) ∧ w'.cell? ⟨bK, oK + i * 3 + 2, none⟩ = some (.slice tki.a2 tki.n2 tki.c2))) xw_4 := unhide HCC _ cc_4
                    refine hK.out _ _ (fun _ => hC_4) ?_
                    clear hK K
                    (try simp only [Act.put, List.setIfInBounds_toArray, List.set_cons_zero, List.set_cons_succ])
                    obtain ⟨tk2, rfl, rn⟩ := tri_of hv_4
                    simp only [Tri.val]
                    have S8 := (unhide HSK1).keep cc_4
                    have ⟨l0, l1, l2⟩ := S8.x19.free
                    have ⟨y0, y1, y2⟩ := S8.x19.cells _ (Below.refl _ _)
                    have FN := S8.setInto tk2 _ rn
                    have FBS := ((unhide HSK1_b).keep cc_4).other S8.x19 (by have a := unhide HLB; have h6 := S8.o6; have h7 := S8.o7; omega) (.bool tk2.s) (.slice tk2.a1 tk2.n1 tk2.c1) (.slice tk2.a2 tk2.n2 tk2.c2)
                    obtain ⟨Wk2, hWk2⟩ : ∃ W, ((xw_4.setCell ⟨b19, 0, none⟩ (.bool tk2.s)).setCell ⟨b19, 1, none⟩ (.slice tk2.a1 tk2.n1 tk2.c1)).setCell ⟨b19, 2, none⟩ (.slice tk2.a2 tk2.n2 tk2.c2) = W := ⟨_, rfl⟩
                    rw [hWk2] at FN FBS
                    have HSK2 := hide FN
                    have HSK2_b := hide FBS
                    clear S8 FN rn FBS hv_1 hb_1 hv_2 hb_2 hv_3 hb_3 hv_4 hb_4
                    refine wpTill_one (k := 17) (by kernel_rfl) rfl (fun K hK => ?_)
                    (try simp only [List.getElem_toArray, List.getElem_cons_succ, List.getElem_cons_zero])
                    go_simp
                    refine hK.out _ _ (fun h => absurd (h.symm.trans (by kernel_rfl)) Bool.false_ne_true) ?_
                    clear hK K
                    (try simp only [Act.put, List.setIfInBounds_toArray, List.set_cons_zero, List.set_cons_succ])
                    refine wpTill_done (by kernel_rfl) ?_ _
                    clear l0 l1 l2 y0 y1 y2 hWk2 hC0 hC_1 cc_1 hC_2 cc_2 hC_3 cc_3 hC_4 cc_4 bd0 HCC HCL HM1 HM2 HAD HSK1 HSK1_b
                    have HY1 : Hid (Net.one (Net.one p i z) k (p k + 1) k = p k + 1) := one_get _ _ _
                    obtain ⟨Y1, hY1⟩ : ∃ Y1 : Int, ((p k + 1 : Nat) : Int) = Y1 := ⟨_, rfl⟩
                    have HY1E := hide hY1
                    have hY10 : 0 ≤ Y1 := by omega
                    have hY14 : Y1 ≤ 5 := by have := unhide HP4 k; omega
                    clear hY1
                    have k14 := (unhide HSK2).k14
                    have ⟨kn, fn⟩ := (unhide HSK2).kn (j := k) (by omega)
                    rw [unhide HY1, unhide HY1E] at kn
                    have FN := (unhide HSK2).setN k (p k)
                    have FBS := (unhide HSK2_b).ints (j := k) (x := ((p k : Nat) : Int)) (unhide HSK2).cn (by have a := unhide HLB; have h3 := (unhide HSK2).o3; have h4 := (unhide HSK2).o4; have h5 := (unhide HSK2).o5; have h6 := (unhide HSK2).o6; have h7 := (unhide HSK2).o7; omega)
                    have ecast : ((p k : Nat) : Int) = Y1 - 1 := by have a := unhide HY1E; omega
                    rw [ecast] at FN FBS
                    obtain ⟨Wk3, hWk3⟩ : ∃ W, Wk2.setCell ⟨gn, k, none⟩ (.int .i64 (Y1 - 1)) = W := ⟨_, rfl⟩
                    rw [hWk3] at FN FBS
                    rw [one_back (Net.one p i z) k (p k + 1) (unhide HPK)] at FN
                    have HSK3 := hide FN
                    have HSK3_b := hide FBS
                    clear FN ecast FBS
                    have eg : Bth.ps FI i + Q * bf qs i + Bth.ps (gIn Q (ldn x ss N) (bf ss) (lf ks) i) k + Q * ldn x ss N k * bf ss k * lf ks k i = Bth.ps FI i + Q * bf qs i + Bth.ps (gIn Q (ldn x ss N) (bf ss) (lf ks) i) (k + 1) := by
                      show _ = _ + (Bth.ps _ k + gIn _ _ _ _ i k)
                      have e : gIn Q (ldn x ss N) (bf ss) (lf ks) i k = Q * ldn x ss N k * bf ss k * lf ks k i := by unfold gIn; rw [if_neg (unhide HKI)]
                      rw [e, ← Rat.add_assoc]
                    have HEG := hide eg
                    have HRK1 : Hid (RS (Bth.ps FI i + Q * bf qs i + Bth.ps (gIn Q (ldn x ss N) (bf ss) (lf ks) i) k + Q * ldn x ss N k * bf ss k * lf ks k i) (i * 1000000000 + 1 + (k + 1 + 1) * 200000000)) := ((unhide HRK).add ((((unhide HQR).mul (unhide HRR k)).mul (unhide HRS k hltk)).mul (unhide HRL k i hltk hlt))).mono (by have : XB = 4000000 := rfl; omega)
                    clear eg HSK2 HSK2_b
                    go_wp2_with fail
                    clear k14 kn fn hWk3
                    refine ⟨⟨k + 1, tk2, by go_num, hltk, ?_, unhide HSK3_b, ?_⟩, by simp [intOf]; omega⟩
                    · rw [← unhide HEG]; exact unhide HSK3
                    · rw [← unhide HEG]; exact unhide HRK1
                · obtain rfl : N = k := by omega
                  have e10 : ¬ (N : Int) < (N : Int) := by omega
                  clear hS hB hrk k14
                  have HZ1 : Hid (Net.one p i z i = z) := one_get _ _ _
                  obtain ⟨Z, hZ'⟩ : ∃ Z : Int, ((z : Nat) : Int) = Z := ⟨_, rfl⟩
                  have HZE := hide hZ'
                  have hZ0 : 0 ≤ Z := by omega
                  have hZ4 : Z ≤ 4 := by have a := unhide HZ; have := unhide HP4 i; omega
                  clear hZ'
                  have k14a := (unhide HSK).k14
                  have ⟨kna, fna⟩ := (unhide HSK).kn (j := i) (by omega)
                  rw [unhide HZ1, unhide HZE] at kna
                  have FN := (unhide HSK).setN i (p i)
                  have FBS := (unhide HBK).ints (j := i) (x := ((p i : Nat) : Int)) (unhide HSK).cn (by have a := unhide HLB; have h3 := (unhide HSK).o3; have h4 := (unhide HSK).o4; have h5 := (unhide HSK).o5; have h6 := (unhide HSK).o6; have h7 := (unhide HSK).o7; omega)
                  have ecast : ((p i : Nat) : Int) = Z + 1 := by have a := unhide HZE; have b := unhide HZ; omega
                  rw [ecast] at FN FBS
                  obtain ⟨Wr1, hWr1⟩ : ∃ W, wr.setCell ⟨gn, i, none⟩ (.int .i64 (Z + 1)) = W := ⟨_, rfl⟩
                  rw [hWr1] at FN FBS
                  rw [one_back p i z rfl] at FN
                  have HSR1x := hide FN
                  have HSR1x_b := hide FBS
                  clear FN ecast FBS
                  obtain ⟨X2, hX2⟩ : ∃ X2 : Int, ((p i : Nat) : Int) = X2 := ⟨_, rfl⟩
                  have HX2E := hide hX2
                  have hX20 : 0 ≤ X2 := by omega
                  have hX24 : X2 ≤ 4 := by have := unhide HP4 i; omega
                  clear hX2
                  have k14 := (unhide HSR1x).k14
                  have ⟨kn, fn⟩ := (unhide HSR1x).kn (j := i) (by omega)
                  rw [unhide HX2E] at kn
                  have FN := (unhide HSR1x).setN i (p i + 1)
                  have FBS := (unhide HSR1x_b).ints (j := i) (x := ((p i + 1 : Nat) : Int)) (unhide HSR1x).cn (by have a := unhide HLB; have h3 := (unhide HSR1x).o3; have h4 := (unhide HSR1x).o4; have h5 := (unhide HSR1x).o5; have h6 := (unhide HSR1x).o6; have h7 := (unhide HSR1x).o7; omega)
                  have ecast : ((p i + 1 : Nat) : Int) = X2 + 1 := by have a := unhide HX2E; omega
                  rw [ecast] at FN FBS
                  obtain ⟨Wt1, hWt1⟩ : ∃ W, Wr1.setCell ⟨gn, i, none⟩ (.int .i64 (X2 + 1)) = W := ⟨_, rfl⟩
                  rw [hWt1] at FN FBS
                  have HST1 := hide FN
                  have HST1_b := hide FBS
                  clear FN ecast FBS
                  have HCL : Hid (∀ W, Below Wt1.heap.size Wt1 W → Calls Tryz.prog 11 #[.pointer (some ⟨b12, 0, none⟩), .pointer (some ⟨b14, 0, none⟩), .pointer (some ⟨b16, 0, none⟩)] W fun e w' => ∃ v, e = .returned v ∧ RatIs w' v (P * ldn x ss N i) ∧ Below W.heap.size W w') := by
                    have h := (unhide HST1).call (unhide HV5) (unhide HN0) (by omega) (unhide HR0) (unhide HR1) (fun j => by have a := one_le (i := i) (v := p i + 1) (fun j => Nat.le_trans (unhide HP4 j) (show 4 ≤ 6 by omega)) (by have := unhide HP4 i; omega) j; exact a) (unhide HRR)
                    rw [show Net.jk (ldn x ss N) (Net.one p i (p i + 1)) N = P * ldn x ss N i from by rw [Net.jk_more (n := p) (i := i) N hlt (fun j hj => one_far _ hj) (one_get _ _ _), unhide HPE]] at h
                    exact h
                  have HM1 : Hid (∀ W v1, Below Wt1.heap.size Wt1 W → RatIs W v1 (P * ldn x ss N i) → Calls Tryz.prog 15 #[v1, .agg #[.bool tm.s, .slice tm.a1 tm.n1 tm.c1, .slice tm.a2 tm.n2 tm.c2]] W fun e w' => ∃ v, e = .returned v ∧ RatIs w' v (P * ldn x ss N i * bf ss i) ∧ Below W.heap.size W w') := fun W v1 hW hv1 => mulR_any v1 tm.val _ _ W hv1 (unhide HTM W (below_step (unhide HST1).bl hW)).2 6000000000 (((unhide HPR).mul (unhide HRR i)).mono (by have : XB = 4000000 := rfl; omega)) ((unhide HRS i hlt).mono (by omega)) (by rw [KKe]; omega)
                  have HM2 : Hid (∀ W v1, Below Wt1.heap.size Wt1 W → RatIs W v1 (P * ldn x ss N i * bf ss i) → Calls Tryz.prog 15 #[v1, .agg #[.bool tst.s, .slice tst.a1 tst.n1 tst.c1, .slice tst.a2 tst.n2 tst.c2]] W fun e w' => ∃ v, e = .returned v ∧ RatIs w' v (P * ldn x ss N i * bf ss i * (1 - SI)) ∧ Below W.heap.size W w') := fun W v1 hW hv1 => mulR_any v1 tst.val _ _ W hv1 ((unhide HST1_b).2.below hW) 6000000000 ((((unhide HPR).mul (unhide HRR i)).mul (unhide HRS i hlt)).mono (by have : XB = 4000000 := rfl; omega)) ((one_RS'.sub' (unhide HSR1)).mono (by omega)) (by rw [KKe]; omega)
                  have HAD : Hid (∀ W v2, Below Wt1.heap.size Wt1 W → RatIs W v2 (P * ldn x ss N i * bf ss i * (1 - SI)) → Calls Tryz.prog 14 #[.agg #[.bool tk.s, .slice tk.a1 tk.n1 tk.c1, .slice tk.a2 tk.n2 tk.c2], v2] W fun e w' => ∃ v, e = .returned v ∧ RatIs w' v (Bth.ps FI i + Q * bf qs i + Bth.ps (gIn Q (ldn x ss N) (bf ss) (lf ks) i) N + P * ldn x ss N i * bf ss i * (1 - SI)) ∧ Below W.heap.size W w') := fun W v2 hW hv2 => addR_any tk.val v2 _ _ W ((unhide HST1).x19.2.below hW) hv2 6000000000 ((unhide HRK).mono (by omega)) (((((unhide HPR).mul (unhide HRR i)).mul (unhide HRS i hlt)).mul (one_RS'.sub' (unhide HSR1))).mono (by have : XB = 4000000 := rfl; omega)) (by rw [KKe]; omega)
                  have HCC : Hid (∀ W, Below Wt1.heap.size Wt1 W → (fun w' : World => (w'.cell? ⟨b19, 0, none⟩ = some (.bool tk.s) ∧ w'.cell? ⟨b19, 1, none⟩ = some (.slice tk.a1 tk.n1 tk.c1) ∧ w'.cell? ⟨b19, 2, none⟩ = some (.slice tk.a2 tk.n2 tk.c2)) ∧ (w'.cell? ⟨bm, om + i * 3, none⟩ = some (.bool tm.s) ∧ w'.cell? ⟨bm, om + i * 3 + 1, none⟩ = some (.slice tm.a1 tm.n1 tm.c1) ∧ w'.cell? ⟨bm, om + i * 3 + 2, none⟩ = some (.slice tm.a2 tm.n2 tm.c2)) ∧ (w'.cell? ⟨bs, 0, none⟩ = some (.bool tst.s) ∧ w'.cell? ⟨bs, 1, none⟩ = some (.slice tst.a1 tst.n1 tst.c1) ∧ w'.cell? ⟨bs, 2, none⟩ = some (.slice tst.a2 tst.n2 tst.c2))) W) := fun W hW => by
                    have bc := below_step (unhide HST1).bl hW
                    exact ⟨(unhide HST1).x19.cells W hW, (unhide HTM W bc).1, (unhide HST1_b).cells W hW⟩
                  go_wp2_with fail
                  (try simp only [Exit.inBlock, Exit.then])
                  (try go_wp2_with fail)
                  clear k14 kn fn hWt1 k14a kna fna hWr1
                  refine wp_region_till (fun w' : World => (w'.cell? ⟨b19, 0, none⟩ = some (.bool tk.s) ∧ w'.cell? ⟨b19, 1, none⟩ = some (.slice tk.a1 tk.n1 tk.c1) ∧ w'.cell? ⟨b19, 2, none⟩ = some (.slice tk.a2 tk.n2 tk.c2)) ∧ (w'.cell? ⟨bm, om + i * 3, none⟩ = some (.bool tm.s) ∧ w'.cell? ⟨bm, om + i * 3 + 1, none⟩ = some (.slice tm.a1 tm.n1 tm.c1) ∧ w'.cell? ⟨bm, om + i * 3 + 2, none⟩ = some (.slice tm.a2 tm.n2 tm.c2)) ∧ (w'.cell? ⟨bs, 0, none⟩ = some (.bool tst.s) ∧ w'.cell? ⟨bs, 1, none⟩ = some (.slice tst.a1 tst.n1 tst.c1) ∧ w'.cell? ⟨bs, 2, none⟩ = some (.slice tst.a2 tst.n2 tst.c2))) 11 (by kernel_rfl) ?_
                  have bd0 : Below Wt1.heap.size Wt1 Wt1.drew := (Below.refl _ _).drew
                  have hC0 : (fun w' : World => (w'.cell? ⟨b19, 0, none⟩ = some (.bool tk.s) ∧ w'.cell? ⟨b19, 1, none⟩ = some (.slice tk.a1 tk.n1 tk.c1) ∧ w'.cell? ⟨b19, 2, none⟩ = some (.slice tk.a2 tk.n2 tk.c2)) ∧ (w'.cell? ⟨bm, om + i * 3, none⟩ = some (.bool tm.s) ∧ w'.cell? ⟨bm, om + i * 3 + 1, none⟩ = some (.slice tm.a1 tm.n1 tm.c1) ∧ w'.cell? ⟨bm, om + i * 3 + 2, none⟩ = some (.slice tm.a2 tm.n2 tm.c2)) ∧ (w'.cell? ⟨bs, 0, none⟩ = some (.bool tst.s) ∧ w'.cell? ⟨bs, 1, none⟩ = some (.slice tst.a1 tst.n1 tst.c1) ∧ w'.cell? ⟨bs, 2, none⟩ = some (.slice tst.a2 tst.n2 tst.c2))) Wt1.drew := unhide HCC _ bd0
                  refine wpTill_take (i := 0) (v := ?_) rfl (by kernel_rfl) (by kernel_rfl) (by kernel_rfl) (by kernel_rfl) (by kernel_rfl) (by kernel_rfl) (fun _ _ _ h => h) (Or.inl ⟨by rfl, ?_⟩) hC0 ?_
                  rotate_left
                  · intro w hSw; (try dsimp only at hSw); obtain ⟨⟨z0, z1, z2⟩, ⟨z3, z4, z5⟩, z6, z7, z8⟩ := hSw; go_simp; (try with_reducible rfl)
                  (try simp only [List.getElem_toArray, List.getElem_cons_succ, List.getElem_cons_zero])
                  (try simp only [Act.put, List.setIfInBounds_toArray, List.set_cons_zero, List.set_cons_succ])
                  refine wpTill_pure (i := 1) (v := ?_) rfl (by kernel_rfl) (by kernel_rfl) (by kernel_rfl) (by kernel_rfl) (fun _ _ _ h => h) (Or.inl ⟨by rfl, ?_⟩) (fun _ => hC0) ?_
                  rotate_left
                  · intro w hSw; clear hSw; go_simp; (try with_reducible rfl)
                  (try simp only [List.getElem_toArray, List.getElem_cons_succ, List.getElem_cons_zero])
                  (try simp only [Act.put, List.setIfInBounds_toArray, List.set_cons_zero, List.set_cons_succ])
                  refine wpTill_pure (i := 3) (v := ?_) rfl (by kernel_rfl) (by kernel_rfl) (by kernel_rfl) (by kernel_rfl) (fun _ _ _ h => h) (Or.inl ⟨by rfl, ?_⟩) (fun _ => hC0) ?_
                  rotate_left
                  · intro w hSw; clear hSw; go_simp; (try with_reducible rfl)
                  (try simp only [List.getElem_toArray, List.getElem_cons_succ, List.getElem_cons_zero])
                  (try simp only [Act.put, List.setIfInBounds_toArray, List.set_cons_zero, List.set_cons_succ])
                  refine wpTill_pure (i := 4) (v := ?_) rfl (by kernel_rfl) (by kernel_rfl) (by kernel_rfl) (by kernel_rfl) (fun _ _ _ h => h) (Or.inl ⟨by rfl, ?_⟩) (fun _ => hC0) ?_
                  rotate_left
                  · intro w hSw; clear hSw; go_simp; (try with_reducible rfl)
                  (try simp only [List.getElem_toArray, List.getElem_cons_succ, List.getElem_cons_zero])
                  (try simp only [Act.put, List.setIfInBounds_toArray, List.set_cons_zero, List.set_cons_succ])
                  refine wpTill_pure (i := 5) (v := ?_) rfl (by kernel_rfl) (by kernel_rfl) (by kernel_rfl) (by kernel_rfl) (fun _ _ _ h => h) (Or.inl ⟨by rfl, ?_⟩) (fun _ => hC0) ?_
                  rotate_left
                  · intro w hSw; clear hSw; go_simp; (try with_reducible rfl)
                  (try simp only [List.getElem_toArray, List.getElem_cons_succ, List.getElem_cons_zero])
                  (try simp only [Act.put, List.setIfInBounds_toArray, List.set_cons_zero, List.set_cons_succ])
                  refine wpTill_take (i := 6) (v := ?_) rfl (by kernel_rfl) (by kernel_rfl) (by kernel_rfl) (by kernel_rfl) (by kernel_rfl) (by kernel_rfl) (fun _ _ _ h => h) (Or.inl ⟨by rfl, ?_⟩) hC0 ?_
                  rotate_left
                  · intro w hSw; (try dsimp only at hSw); obtain ⟨⟨z0, z1, z2⟩, ⟨z3, z4, z5⟩, z6, z7, z8⟩ := hSw; go_simp; (try with_reducible rfl)
                  (try simp only [List.getElem_toArray, List.getElem_cons_succ, List.getElem_cons_zero])
                  (try simp only [Act.put, List.setIfInBounds_toArray, List.set_cons_zero, List.set_cons_succ])
                  refine wpTill_take (i := 8) (v := ?_) rfl (by kernel_rfl) (by kernel_rfl) (by kernel_rfl) (by kernel_rfl) (by kernel_rfl) (by kernel_rfl) (fun _ _ _ h => h) (Or.inl ⟨by rfl, ?_⟩) hC0 ?_
                  rotate_left
                  · intro w hSw; (try dsimp only at hSw); obtain ⟨⟨z0, z1, z2⟩, ⟨z3, z4, z5⟩, z6, z7, z8⟩ := hSw; go_simp; (try with_reducible rfl)
                  (try simp only [List.getElem_toArray, List.getElem_cons_succ, List.getElem_cons_zero])
                  (try simp only [Act.put, List.setIfInBounds_toArray, List.set_cons_zero, List.set_cons_succ])
                  refine wpTill_one (k := 2) (by kernel_rfl) rfl (fun K hK => ?_)
                  (try simp only [List.getElem_toArray, List.getElem_cons_succ, List.getElem_cons_zero])
                  go_simp
                  refine (unhide HCL _ bd0).mono ?_
                  rintro e xw_1 ⟨xv_1, rfl, hv_1, hb_1⟩
                  have cc_1 := below_step bd0 hb_1
                  have hC_1 : (fun w' : World => (w'.cell? ⟨b19, 0, none⟩ = some (.bool tk.s) ∧ w'.cell? ⟨b19, 1, none⟩ = some (.slice tk.a1 tk.n1 tk.c1) ∧ w'.cell? ⟨b19, 2, none⟩ = some (.slice tk.a2 tk.n2 tk.c2)) ∧ (w'.cell? ⟨bm, om + i * 3, none⟩ = some (.bool tm.s) ∧ w'.cell? ⟨bm, om + i * 3 + 1, none⟩ = some (.slice tm.a1 tm.n1 tm.c1) ∧ w'.cell? ⟨bm, om + i * 3 + 2, none⟩ = some (.slice tm.a2 tm.n2 tm.c2)) ∧ (w'.cell? ⟨bs, 0, none⟩ = some (.bool tst.s) ∧ w'.cell? ⟨bs, 1, none⟩ = some (.slice tst.a1 tst.n1 tst.c1) ∧ w'.cell? ⟨bs, 2, none⟩ = some (.slice tst.a2 tst.n2 tst.c2))) xw_1 := unhide HCC _ cc_1
                  refine hK.out _ _ (fun _ => hC_1) ?_
                  clear hK K
                  (try simp only [Act.put, List.setIfInBounds_toArray, List.set_cons_zero, List.set_cons_succ])
                  refine wpTill_one (k := 7) (by kernel_rfl) rfl (fun K hK => ?_)
                  (try simp only [List.getElem_toArray, List.getElem_cons_succ, List.getElem_cons_zero])
                  go_simp
                  refine (unhide HM1 _ _ cc_1 hv_1).mono ?_
                  rintro e xw_2 ⟨xv_2, rfl, hv_2, hb_2⟩
                  have cc_2 := below_step cc_1 hb_2
                  have hC_2 : (fun w' : World => (w'.cell? ⟨b19, 0, none⟩ = some (.bool tk.s) ∧ w'.cell? ⟨b19, 1, none⟩ = some (.slice tk.a1 tk.n1 tk.c1) ∧ w'.cell? ⟨b19, 2, none⟩ = some (.slice tk.a2 tk.n2 tk.c2)) ∧ (w'.cell? ⟨bm, om + i * 3, none⟩ = some (.bool tm.s) ∧ w'.cell? ⟨bm, om + i * 3 + 1, none⟩ = some (.slice tm.a1 tm.n1 tm.c1) ∧ w'.cell? ⟨bm, om + i * 3 + 2, none⟩ = some (.slice tm.a2 tm.n2 tm.c2)) ∧ (w'.cell? ⟨bs, 0, none⟩ = some (.bool tst.s) ∧ w'.cell? ⟨bs, 1, none⟩ = some (.slice tst.a1 tst.n1 tst.c1) ∧ w'.cell? ⟨bs, 2, none⟩ = some (.slice tst.a2 tst.n2 tst.c2))) xw_2 := unhide HCC _ cc_2
                  refine hK.out _ _ (fun _ => hC_2) ?_
                  clear hK K
                  (try simp only [Act.put, List.setIfInBounds_toArray, List.set_cons_zero, List.set_cons_succ])
                  refine wpTill_one (k := 9) (by kernel_rfl) rfl (fun K hK => ?_)
                  (try simp only [List.getElem_toArray, List.getElem_cons_succ, List.getElem_cons_zero])
                  go_simp
                  refine (unhide HM2 _ _ cc_2 hv_2).mono ?_
                  rintro e xw_3 ⟨xv_3, rfl, hv_3, hb_3⟩
                  have cc_3 := below_step cc_2 hb_3
                  have hC_3 : (fun w' : World => (w'.cell? ⟨b19, 0, none⟩ = some (.bool tk.s) ∧ w'.cell? ⟨b19, 1, none⟩ = some (.slice tk.a1 tk.n1 tk.c1) ∧ w'.cell? ⟨b19, 2, none⟩ = some (.slice tk.a2 tk.n2 tk.c2)) ∧ (w'.cell? ⟨bm, om + i * 3, none⟩ = some (.bool tm.s) ∧ w'.cell? ⟨bm, om + i * 3 + 1, none⟩ = some (.slice tm.a1 tm.n1 tm.c1) ∧ w'.cell? ⟨bm, om + i * 3 + 2, none⟩ = some (.slice tm.a2 tm.n2 tm.c2)) ∧ (w'.cell? ⟨bs, 0, none⟩ = some (.bool tst.s) ∧ w'.cell? ⟨bs, 1, none⟩ = some (.slice tst.a1 tst.n1 tst.c1) ∧ w'.cell? ⟨bs, 2, none⟩ = some (.slice tst.a2 tst.n2 tst.c2))) xw_3 := unhide HCC _ cc_3
                  refine hK.out _ _ (fun _ => hC_3) ?_
                  clear hK K
                  (try simp only [Act.put, List.setIfInBounds_toArray, List.set_cons_zero, List.set_cons_succ])
                  refine wpTill_one (k := 10) (by kernel_rfl) rfl (fun K hK => ?_)
                  (try simp only [List.getElem_toArray, List.getElem_cons_succ, List.getElem_cons_zero])
                  go_simp
                  refine (unhide HAD _ _ cc_3 hv_3).mono ?_
                  rintro e xw_4 ⟨xv_4, rfl, hv_4, hb_4⟩
                  have cc_4 := below_step cc_3 hb_4
                  have hC_4 : (fun w' : World => (w'.cell? ⟨b19, 0, none⟩ = some (.bool tk.s) ∧ w'.cell? ⟨b19, 1, none⟩ = some (.slice tk.a1 tk.n1 tk.c1) ∧ w'.cell? ⟨b19, 2, none⟩ = some (.slice tk.a2 tk.n2 tk.c2)) ∧ (w'.cell? ⟨bm, om + i * 3, none⟩ = some (.bool tm.s) ∧ w'.cell? ⟨bm, om + i * 3 + 1, none⟩ = some (.slice tm.a1 tm.n1 tm.c1) ∧ w'.cell? ⟨bm, om + i * 3 + 2, none⟩ = some (.slice tm.a2 tm.n2 tm.c2)) ∧ (w'.cell? ⟨bs, 0, none⟩ = some (.bool tst.s) ∧ w'.cell? ⟨bs, 1, none⟩ = some (.slice tst.a1 tst.n1 tst.c1) ∧ w'.cell? ⟨bs, 2, none⟩ = some (.slice tst.a2 tst.n2 tst.c2))) xw_4 := unhide HCC _ cc_4
                  refine hK.out _ _ (fun _ => hC_4) ?_
                  clear hK K
                  (try simp only [Act.put, List.setIfInBounds_toArray, List.set_cons_zero, List.set_cons_succ])
                  obtain ⟨tt2, rfl, rn⟩ := tri_of hv_4
                  simp only [Tri.val]
                  have S8 := (unhide HST1).keep cc_4
                  have ⟨l0, l1, l2⟩ := S8.x19.free
                  have ⟨y0, y1, y2⟩ := S8.x19.cells _ (Below.refl _ _)
                  have FN := S8.setInto tt2 _ rn
                  have FBS := ((unhide HST1_b).keep cc_4).other S8.x19 (by have a := unhide HLB; have h6 := S8.o6; have h7 := S8.o7; omega) (.bool tt2.s) (.slice tt2.a1 tt2.n1 tt2.c1) (.slice tt2.a2 tt2.n2 tt2.c2)
                  obtain ⟨Wt2, hWt2⟩ : ∃ W, ((xw_4.setCell ⟨b19, 0, none⟩ (.bool tt2.s)).setCell ⟨b19, 1, none⟩ (.slice tt2.a1 tt2.n1 tt2.c1)).setCell ⟨b19, 2, none⟩ (.slice tt2.a2 tt2.n2 tt2.c2) = W := ⟨_, rfl⟩
                  rw [hWt2] at FN FBS
                  have HST2 := hide FN
                  have HST2_b := hide FBS
                  clear S8 FN rn FBS hv_1 hb_1 hv_2 hb_2 hv_3 hb_3 hv_4 hb_4
                  refine wpTill_one (k := 11) (by kernel_rfl) rfl (fun K hK => ?_)
                  (try simp only [List.getElem_toArray, List.getElem_cons_succ, List.getElem_cons_zero])
                  go_simp
                  refine hK.out _ _ (fun h => absurd (h.symm.trans (by kernel_rfl)) Bool.false_ne_true) ?_
                  clear hK K
                  (try simp only [Act.put, List.setIfInBounds_toArray, List.set_cons_zero, List.set_cons_succ])
                  refine wpTill_done (by kernel_rfl) ?_ _
                  clear l0 l1 l2 y0 y1 y2 hWt2 hC0 hC_1 cc_1 hC_2 cc_2 hC_3 cc_3 hC_4 cc_4 bd0 HCC HCL HM1 HM2 HAD HST1 HST1_b
                  have HX3 : Hid (Net.one p i (p i + 1) i = p i + 1) := one_get _ _ _
                  obtain ⟨X3, hX3⟩ : ∃ X3 : Int, ((p i + 1 : Nat) : Int) = X3 := ⟨_, rfl⟩
                  have HX3E := hide hX3
                  have hX30 : 0 ≤ X3 := by omega
                  have hX34 : X3 ≤ 5 := by have := unhide HP4 i; omega
                  clear hX3
                  have k14 := (unhide HST2).k14
                  have ⟨kn, fn⟩ := (unhide HST2).kn (j := i) (by omega)
                  rw [unhide HX3, unhide HX3E] at kn
                  have FN := (unhide HST2).setN i (p i)
                  have FBS := (unhide HST2_b).ints (j := i) (x := ((p i : Nat) : Int)) (unhide HST2).cn (by have a := unhide HLB; have h3 := (unhide HST2).o3; have h4 := (unhide HST2).o4; have h5 := (unhide HST2).o5; have h6 := (unhide HST2).o6; have h7 := (unhide HST2).o7; omega)
                  have ecast : ((p i : Nat) : Int) = X3 - 1 := by have a := unhide HX3E; omega
                  rw [ecast] at FN FBS
                  obtain ⟨Wt3, hWt3⟩ : ∃ W, Wt2.setCell ⟨gn, i, none⟩ (.int .i64 (X3 - 1)) = W := ⟨_, rfl⟩
                  rw [hWt3] at FN FBS
                  rw [one_back p i (p i + 1) rfl] at FN
                  have HST3 := hide FN
                  have HST3_b := hide FBS
                  clear FN ecast FBS
                  have egI : Bth.ps FI i + Q * bf qs i + Bth.ps (gIn Q (ldn x ss N) (bf ss) (lf ks) i) N + P * ldn x ss N i * bf ss i * (1 - SI) = Bth.ps FI (i + 1) := by
                    show _ = Bth.ps FI i + FI i
                    rw [← unhide HFI]
                    unfold Net.flowIn
                    have a := unhide HZ
                    rw [if_pos (by omega)]
                    have eS : Bth.ps (fun k => lf ks i k) N = SI := by rw [← unhide HSI, qsum_ps]; rfl
                    rw [eS]
                    show _ = Bth.ps _ i + (lessQ (ldn x ss N) p N i * bf qs i + Bth.ps (gIn (lessQ (ldn x ss N) p N i) (ldn x ss N) (bf ss) (lf ks) i) N + _)
                    rw [unhide HQ]
                    exact add4 _ _ _ _
                  have egO : Bth.ps FO i + P * bf qs i + P * bf ss i * (1 - lf ks i i) = Bth.ps FO (i + 1) := by
                    show _ = Bth.ps FO i + FO i
                    rw [← unhide HFO]
                    unfold Net.flowOut
                    have a := unhide HZ
                    rw [if_pos (by omega)]
                    exact Rat.add_assoc _ _ _
                  have HEI := hide egI
                  have HEO := hide egO
                  have HRQ : Hid (RS (Bth.ps FI i + Q * bf qs i + Bth.ps (gIn Q (ldn x ss N) (bf ss) (lf ks) i) N + P * ldn x ss N i * bf ss i * (1 - SI)) ((i + 1) * 1000000000 + 1)) := ((unhide HRK).add ((((unhide HPR).mul (unhide HRR i)).mul (unhide HRS i hlt)).mul (one_RS'.sub' (unhide HSR1)))).mono (by have : XB = 4000000 := rfl; omega)
                  have HRO9 : Hid (RS (Bth.ps FO i + P * bf qs i + P * bf ss i * (1 - lf ks i i)) ((i + 1) * 1000000000 + 1)) := (unhide HRO2).mono (by omega)
                  clear egI egO HST2 HST2_b
                  go_wp2_with fail
                  refine ⟨⟨i + 1, to2, tt2, by go_num, hlt, ?_, ?_, ?_⟩, by simp [intOf]; omega⟩
                  · rw [← unhide HEI, ← unhide HEO]; exact unhide HST3
                  · rw [← unhide HEO]; exact unhide HRO9
                  · rw [← unhide HEI]; exact unhide HRQ
            · have hp00 : p i = 0 := by omega
              have HP00 := hide hp00
              have e9 : X = 0 := by omega
              have e13 : decide (0 < X) = false := by rw [decide_eq_false_iff_not]; omega
              have HE9 := hide e9
              clear hX hp0 hp4i hp00 e9
              have hX20 : 0 ≤ X := by have := unhide HE9; omega
              have hX24 : X ≤ 4 := by have := unhide HE9; omega
              clear k14 kn fn
              have k14 := (unhide HS3).k14
              have ⟨kn, fn⟩ := (unhide HS3).kn (j := i) (by omega)
              rw [unhide HXE] at kn
              have FN := (unhide HS3).setN i (p i + 1)
              have FBS := (unhide HX_bs).ints (j := i) (x := ((p i + 1 : Nat) : Int)) (unhide HS3).cn (by have a := unhide HLB; have h3 := (unhide HS3).o3; have h4 := (unhide HS3).o4; have h5 := (unhide HS3).o5; have h6 := (unhide HS3).o6; have h7 := (unhide HS3).o7; omega)
              have ecast : ((p i + 1 : Nat) : Int) = X + 1 := by have a := unhide HXE; omega
              rw [ecast] at FN FBS
              obtain ⟨Wt1, hWt1⟩ : ∃ W, Wbs.setCell ⟨gn, i, none⟩ (.int .i64 (X + 1)) = W := ⟨_, rfl⟩
              rw [hWt1] at FN FBS
              have HST1 := hide FN
              have HST1_b := hide FBS
              clear FN ecast FBS
              have HCL : Hid (∀ W, Below Wt1.heap.size Wt1 W → Calls Tryz.prog 11 #[.pointer (some ⟨b12, 0, none⟩), .pointer (some ⟨b14, 0, none⟩), .pointer (some ⟨b16, 0, none⟩)] W fun e w' => ∃ v, e = .returned v ∧ RatIs w' v (P * ldn x ss N i) ∧ Below W.heap.size W w') := by
                have h := (unhide HST1).call (unhide HV5) (unhide HN0) (by omega) (unhide HR0) (unhide HR1) (fun j => by have a := one_le (i := i) (v := p i + 1) (fun j => Nat.le_trans (unhide HP4 j) (show 4 ≤ 6 by omega)) (by have := unhide HP4 i; omega) j; exact a) (unhide HRR)
                rw [show Net.jk (ldn x ss N) (Net.one p i (p i + 1)) N = P * ldn x ss N i from by rw [Net.jk_more (n := p) (i := i) N hlt (fun j hj => one_far _ hj) (one_get _ _ _), unhide HPE]] at h
                exact h
              have HM1 : Hid (∀ W v1, Below Wt1.heap.size Wt1 W → RatIs W v1 (P * ldn x ss N i) → Calls Tryz.prog 15 #[v1, .agg #[.bool tm.s, .slice tm.a1 tm.n1 tm.c1, .slice tm.a2 tm.n2 tm.c2]] W fun e w' => ∃ v, e = .returned v ∧ RatIs w' v (P * ldn x ss N i * bf ss i) ∧ Below W.heap.size W w') := fun W v1 hW hv1 => mulR_any v1 tm.val _ _ W hv1 (unhide HTM W (below_step (unhide HST1).bl hW)).2 6000000000 (((unhide HPR).mul (unhide HRR i)).mono (by have : XB = 4000000 := rfl; omega)) ((unhide HRS i hlt).mono (by omega)) (by rw [KKe]; omega)
              have HM2 : Hid (∀ W v1, Below Wt1.heap.size Wt1 W → RatIs W v1 (P * ldn x ss N i * bf ss i) → Calls Tryz.prog 15 #[v1, .agg #[.bool tst.s, .slice tst.a1 tst.n1 tst.c1, .slice tst.a2 tst.n2 tst.c2]] W fun e w' => ∃ v, e = .returned v ∧ RatIs w' v (P * ldn x ss N i * bf ss i * (1 - SI)) ∧ Below W.heap.size W w') := fun W v1 hW hv1 => mulR_any v1 tst.val _ _ W hv1 ((unhide HST1_b).2.below hW) 6000000000 ((((unhide HPR).mul (unhide HRR i)).mul (unhide HRS i hlt)).mono (by have : XB = 4000000 := rfl; omega)) ((one_RS'.sub' (unhide HSR1)).mono (by omega)) (by rw [KKe]; omega)
              have HAD : Hid (∀ W v2, Below Wt1.heap.size Wt1 W → RatIs W v2 (P * ldn x ss N i * bf ss i * (1 - SI)) → Calls Tryz.prog 14 #[.agg #[.bool t2.s, .slice t2.a1 t2.n1 t2.c1, .slice t2.a2 t2.n2 t2.c2], v2] W fun e w' => ∃ v, e = .returned v ∧ RatIs w' v (Bth.ps FI i + P * ldn x ss N i * bf ss i * (1 - SI)) ∧ Below W.heap.size W w') := fun W v2 hW hv2 => addR_any t2.val v2 _ _ W ((unhide HST1).x19.2.below hW) hv2 6000000000 ((unhide HRI).mono (by omega)) (((((unhide HPR).mul (unhide HRR i)).mul (unhide HRS i hlt)).mul (one_RS'.sub' (unhide HSR1))).mono (by have : XB = 4000000 := rfl; omega)) (by rw [KKe]; omega)
              have HCC : Hid (∀ W, Below Wt1.heap.size Wt1 W → (fun w' : World => (w'.cell? ⟨b19, 0, none⟩ = some (.bool t2.s) ∧ w'.cell? ⟨b19, 1, none⟩ = some (.slice t2.a1 t2.n1 t2.c1) ∧ w'.cell? ⟨b19, 2, none⟩ = some (.slice t2.a2 t2.n2 t2.c2)) ∧ (w'.cell? ⟨bm, om + i * 3, none⟩ = some (.bool tm.s) ∧ w'.cell? ⟨bm, om + i * 3 + 1, none⟩ = some (.slice tm.a1 tm.n1 tm.c1) ∧ w'.cell? ⟨bm, om + i * 3 + 2, none⟩ = some (.slice tm.a2 tm.n2 tm.c2)) ∧ (w'.cell? ⟨bs, 0, none⟩ = some (.bool tst.s) ∧ w'.cell? ⟨bs, 1, none⟩ = some (.slice tst.a1 tst.n1 tst.c1) ∧ w'.cell? ⟨bs, 2, none⟩ = some (.slice tst.a2 tst.n2 tst.c2))) W) := fun W hW => by
                have bc := below_step (unhide HST1).bl hW
                exact ⟨(unhide HST1).x19.cells W hW, (unhide HTM W bc).1, (unhide HST1_b).cells W hW⟩
              go_wp2_with fail
              clear k14 kn fn hWt1
              refine wp_region_till (fun w' : World => (w'.cell? ⟨b19, 0, none⟩ = some (.bool t2.s) ∧ w'.cell? ⟨b19, 1, none⟩ = some (.slice t2.a1 t2.n1 t2.c1) ∧ w'.cell? ⟨b19, 2, none⟩ = some (.slice t2.a2 t2.n2 t2.c2)) ∧ (w'.cell? ⟨bm, om + i * 3, none⟩ = some (.bool tm.s) ∧ w'.cell? ⟨bm, om + i * 3 + 1, none⟩ = some (.slice tm.a1 tm.n1 tm.c1) ∧ w'.cell? ⟨bm, om + i * 3 + 2, none⟩ = some (.slice tm.a2 tm.n2 tm.c2)) ∧ (w'.cell? ⟨bs, 0, none⟩ = some (.bool tst.s) ∧ w'.cell? ⟨bs, 1, none⟩ = some (.slice tst.a1 tst.n1 tst.c1) ∧ w'.cell? ⟨bs, 2, none⟩ = some (.slice tst.a2 tst.n2 tst.c2))) 11 (by kernel_rfl) ?_
              have bd0 : Below Wt1.heap.size Wt1 Wt1.drew := (Below.refl _ _).drew
              have hC0 : (fun w' : World => (w'.cell? ⟨b19, 0, none⟩ = some (.bool t2.s) ∧ w'.cell? ⟨b19, 1, none⟩ = some (.slice t2.a1 t2.n1 t2.c1) ∧ w'.cell? ⟨b19, 2, none⟩ = some (.slice t2.a2 t2.n2 t2.c2)) ∧ (w'.cell? ⟨bm, om + i * 3, none⟩ = some (.bool tm.s) ∧ w'.cell? ⟨bm, om + i * 3 + 1, none⟩ = some (.slice tm.a1 tm.n1 tm.c1) ∧ w'.cell? ⟨bm, om + i * 3 + 2, none⟩ = some (.slice tm.a2 tm.n2 tm.c2)) ∧ (w'.cell? ⟨bs, 0, none⟩ = some (.bool tst.s) ∧ w'.cell? ⟨bs, 1, none⟩ = some (.slice tst.a1 tst.n1 tst.c1) ∧ w'.cell? ⟨bs, 2, none⟩ = some (.slice tst.a2 tst.n2 tst.c2))) Wt1.drew := unhide HCC _ bd0
              refine wpTill_take (i := 0) (v := ?_) rfl (by kernel_rfl) (by kernel_rfl) (by kernel_rfl) (by kernel_rfl) (by kernel_rfl) (by kernel_rfl) (fun _ _ _ h => h) (Or.inl ⟨by rfl, ?_⟩) hC0 ?_
              rotate_left
              · intro w hSw; (try dsimp only at hSw); obtain ⟨⟨z0, z1, z2⟩, ⟨z3, z4, z5⟩, z6, z7, z8⟩ := hSw; go_simp; (try with_reducible rfl)
              (try simp only [List.getElem_toArray, List.getElem_cons_succ, List.getElem_cons_zero])
              (try simp only [Act.put, List.setIfInBounds_toArray, List.set_cons_zero, List.set_cons_succ])
              refine wpTill_pure (i := 1) (v := ?_) rfl (by kernel_rfl) (by kernel_rfl) (by kernel_rfl) (by kernel_rfl) (fun _ _ _ h => h) (Or.inl ⟨by rfl, ?_⟩) (fun _ => hC0) ?_
              rotate_left
              · intro w hSw; clear hSw; go_simp; (try with_reducible rfl)
              (try simp only [List.getElem_toArray, List.getElem_cons_succ, List.getElem_cons_zero])
              (try simp only [Act.put, List.setIfInBounds_toArray, List.set_cons_zero, List.set_cons_succ])
              refine wpTill_pure (i := 3) (v := ?_) rfl (by kernel_rfl) (by kernel_rfl) (by kernel_rfl) (by kernel_rfl) (fun _ _ _ h => h) (Or.inl ⟨by rfl, ?_⟩) (fun _ => hC0) ?_
              rotate_left
              · intro w hSw; clear hSw; go_simp; (try with_reducible rfl)
              (try simp only [List.getElem_toArray, List.getElem_cons_succ, List.getElem_cons_zero])
              (try simp only [Act.put, List.setIfInBounds_toArray, List.set_cons_zero, List.set_cons_succ])
              refine wpTill_pure (i := 4) (v := ?_) rfl (by kernel_rfl) (by kernel_rfl) (by kernel_rfl) (by kernel_rfl) (fun _ _ _ h => h) (Or.inl ⟨by rfl, ?_⟩) (fun _ => hC0) ?_
              rotate_left
              · intro w hSw; clear hSw; go_simp; (try with_reducible rfl)
              (try simp only [List.getElem_toArray, List.getElem_cons_succ, List.getElem_cons_zero])
              (try simp only [Act.put, List.setIfInBounds_toArray, List.set_cons_zero, List.set_cons_succ])
              refine wpTill_pure (i := 5) (v := ?_) rfl (by kernel_rfl) (by kernel_rfl) (by kernel_rfl) (by kernel_rfl) (fun _ _ _ h => h) (Or.inl ⟨by rfl, ?_⟩) (fun _ => hC0) ?_
              rotate_left
              · intro w hSw; clear hSw; go_simp; (try with_reducible rfl)
              (try simp only [List.getElem_toArray, List.getElem_cons_succ, List.getElem_cons_zero])
              (try simp only [Act.put, List.setIfInBounds_toArray, List.set_cons_zero, List.set_cons_succ])
              refine wpTill_take (i := 6) (v := ?_) rfl (by kernel_rfl) (by kernel_rfl) (by kernel_rfl) (by kernel_rfl) (by kernel_rfl) (by kernel_rfl) (fun _ _ _ h => h) (Or.inl ⟨by rfl, ?_⟩) hC0 ?_
              rotate_left
              · intro w hSw; (try dsimp only at hSw); obtain ⟨⟨z0, z1, z2⟩, ⟨z3, z4, z5⟩, z6, z7, z8⟩ := hSw; go_simp; (try with_reducible rfl)
              (try simp only [List.getElem_toArray, List.getElem_cons_succ, List.getElem_cons_zero])
              (try simp only [Act.put, List.setIfInBounds_toArray, List.set_cons_zero, List.set_cons_succ])
              refine wpTill_take (i := 8) (v := ?_) rfl (by kernel_rfl) (by kernel_rfl) (by kernel_rfl) (by kernel_rfl) (by kernel_rfl) (by kernel_rfl) (fun _ _ _ h => h) (Or.inl ⟨by rfl, ?_⟩) hC0 ?_
              rotate_left
              · intro w hSw; (try dsimp only at hSw); obtain ⟨⟨z0, z1, z2⟩, ⟨z3, z4, z5⟩, z6, z7, z8⟩ := hSw; go_simp; (try with_reducible rfl)
              (try simp only [List.getElem_toArray, List.getElem_cons_succ, List.getElem_cons_zero])
              (try simp only [Act.put, List.setIfInBounds_toArray, List.set_cons_zero, List.set_cons_succ])
              refine wpTill_one (k := 2) (by kernel_rfl) rfl (fun K hK => ?_)
              (try simp only [List.getElem_toArray, List.getElem_cons_succ, List.getElem_cons_zero])
              go_simp
              refine (unhide HCL _ bd0).mono ?_
              rintro e xw_1 ⟨xv_1, rfl, hv_1, hb_1⟩
              have cc_1 := below_step bd0 hb_1
              have hC_1 : (fun w' : World => (w'.cell? ⟨b19, 0, none⟩ = some (.bool t2.s) ∧ w'.cell? ⟨b19, 1, none⟩ = some (.slice t2.a1 t2.n1 t2.c1) ∧ w'.cell? ⟨b19, 2, none⟩ = some (.slice t2.a2 t2.n2 t2.c2)) ∧ (w'.cell? ⟨bm, om + i * 3, none⟩ = some (.bool tm.s) ∧ w'.cell? ⟨bm, om + i * 3 + 1, none⟩ = some (.slice tm.a1 tm.n1 tm.c1) ∧ w'.cell? ⟨bm, om + i * 3 + 2, none⟩ = some (.slice tm.a2 tm.n2 tm.c2)) ∧ (w'.cell? ⟨bs, 0, none⟩ = some (.bool tst.s) ∧ w'.cell? ⟨bs, 1, none⟩ = some (.slice tst.a1 tst.n1 tst.c1) ∧ w'.cell? ⟨bs, 2, none⟩ = some (.slice tst.a2 tst.n2 tst.c2))) xw_1 := unhide HCC _ cc_1
              refine hK.out _ _ (fun _ => hC_1) ?_
              clear hK K
              (try simp only [Act.put, List.setIfInBounds_toArray, List.set_cons_zero, List.set_cons_succ])
              refine wpTill_one (k := 7) (by kernel_rfl) rfl (fun K hK => ?_)
              (try simp only [List.getElem_toArray, List.getElem_cons_succ, List.getElem_cons_zero])
              go_simp
              refine (unhide HM1 _ _ cc_1 hv_1).mono ?_
              rintro e xw_2 ⟨xv_2, rfl, hv_2, hb_2⟩
              have cc_2 := below_step cc_1 hb_2
              have hC_2 : (fun w' : World => (w'.cell? ⟨b19, 0, none⟩ = some (.bool t2.s) ∧ w'.cell? ⟨b19, 1, none⟩ = some (.slice t2.a1 t2.n1 t2.c1) ∧ w'.cell? ⟨b19, 2, none⟩ = some (.slice t2.a2 t2.n2 t2.c2)) ∧ (w'.cell? ⟨bm, om + i * 3, none⟩ = some (.bool tm.s) ∧ w'.cell? ⟨bm, om + i * 3 + 1, none⟩ = some (.slice tm.a1 tm.n1 tm.c1) ∧ w'.cell? ⟨bm, om + i * 3 + 2, none⟩ = some (.slice tm.a2 tm.n2 tm.c2)) ∧ (w'.cell? ⟨bs, 0, none⟩ = some (.bool tst.s) ∧ w'.cell? ⟨bs, 1, none⟩ = some (.slice tst.a1 tst.n1 tst.c1) ∧ w'.cell? ⟨bs, 2, none⟩ = some (.slice tst.a2 tst.n2 tst.c2))) xw_2 := unhide HCC _ cc_2
              refine hK.out _ _ (fun _ => hC_2) ?_
              clear hK K
              (try simp only [Act.put, List.setIfInBounds_toArray, List.set_cons_zero, List.set_cons_succ])
              refine wpTill_one (k := 9) (by kernel_rfl) rfl (fun K hK => ?_)
              (try simp only [List.getElem_toArray, List.getElem_cons_succ, List.getElem_cons_zero])
              go_simp
              refine (unhide HM2 _ _ cc_2 hv_2).mono ?_
              rintro e xw_3 ⟨xv_3, rfl, hv_3, hb_3⟩
              have cc_3 := below_step cc_2 hb_3
              have hC_3 : (fun w' : World => (w'.cell? ⟨b19, 0, none⟩ = some (.bool t2.s) ∧ w'.cell? ⟨b19, 1, none⟩ = some (.slice t2.a1 t2.n1 t2.c1) ∧ w'.cell? ⟨b19, 2, none⟩ = some (.slice t2.a2 t2.n2 t2.c2)) ∧ (w'.cell? ⟨bm, om + i * 3, none⟩ = some (.bool tm.s) ∧ w'.cell? ⟨bm, om + i * 3 + 1, none⟩ = some (.slice tm.a1 tm.n1 tm.c1) ∧ w'.cell? ⟨bm, om + i * 3 + 2, none⟩ = some (.slice tm.a2 tm.n2 tm.c2)) ∧ (w'.cell? ⟨bs, 0, none⟩ = some (.bool tst.s) ∧ w'.cell? ⟨bs, 1, none⟩ = some (.slice tst.a1 tst.n1 tst.c1) ∧ w'.cell? ⟨bs, 2, none⟩ = some (.slice tst.a2 tst.n2 tst.c2))) xw_3 := unhide HCC _ cc_3
              refine hK.out _ _ (fun _ => hC_3) ?_
              clear hK K
              (try simp only [Act.put, List.setIfInBounds_toArray, List.set_cons_zero, List.set_cons_succ])
              refine wpTill_one (k := 10) (by kernel_rfl) rfl (fun K hK => ?_)
              (try simp only [List.getElem_toArray, List.getElem_cons_succ, List.getElem_cons_zero])
              go_simp
              refine (unhide HAD _ _ cc_3 hv_3).mono ?_
              rintro e xw_4 ⟨xv_4, rfl, hv_4, hb_4⟩
              have cc_4 := below_step cc_3 hb_4
              have hC_4 : (fun w' : World => (w'.cell? ⟨b19, 0, none⟩ = some (.bool t2.s) ∧ w'.cell? ⟨b19, 1, none⟩ = some (.slice t2.a1 t2.n1 t2.c1) ∧ w'.cell? ⟨b19, 2, none⟩ = some (.slice t2.a2 t2.n2 t2.c2)) ∧ (w'.cell? ⟨bm, om + i * 3, none⟩ = some (.bool tm.s) ∧ w'.cell? ⟨bm, om + i * 3 + 1, none⟩ = some (.slice tm.a1 tm.n1 tm.c1) ∧ w'.cell? ⟨bm, om + i * 3 + 2, none⟩ = some (.slice tm.a2 tm.n2 tm.c2)) ∧ (w'.cell? ⟨bs, 0, none⟩ = some (.bool tst.s) ∧ w'.cell? ⟨bs, 1, none⟩ = some (.slice tst.a1 tst.n1 tst.c1) ∧ w'.cell? ⟨bs, 2, none⟩ = some (.slice tst.a2 tst.n2 tst.c2))) xw_4 := unhide HCC _ cc_4
              refine hK.out _ _ (fun _ => hC_4) ?_
              clear hK K
              (try simp only [Act.put, List.setIfInBounds_toArray, List.set_cons_zero, List.set_cons_succ])
              obtain ⟨tt2, rfl, rn⟩ := tri_of hv_4
              simp only [Tri.val]
              have S8 := (unhide HST1).keep cc_4
              have ⟨l0, l1, l2⟩ := S8.x19.free
              have ⟨y0, y1, y2⟩ := S8.x19.cells _ (Below.refl _ _)
              have FN := S8.setInto tt2 _ rn
              have FBS := ((unhide HST1_b).keep cc_4).other S8.x19 (by have a := unhide HLB; have h6 := S8.o6; have h7 := S8.o7; omega) (.bool tt2.s) (.slice tt2.a1 tt2.n1 tt2.c1) (.slice tt2.a2 tt2.n2 tt2.c2)
              obtain ⟨Wt2, hWt2⟩ : ∃ W, ((xw_4.setCell ⟨b19, 0, none⟩ (.bool tt2.s)).setCell ⟨b19, 1, none⟩ (.slice tt2.a1 tt2.n1 tt2.c1)).setCell ⟨b19, 2, none⟩ (.slice tt2.a2 tt2.n2 tt2.c2) = W := ⟨_, rfl⟩
              rw [hWt2] at FN FBS
              have HST2 := hide FN
              have HST2_b := hide FBS
              clear S8 FN rn FBS hv_1 hb_1 hv_2 hb_2 hv_3 hb_3 hv_4 hb_4
              refine wpTill_one (k := 11) (by kernel_rfl) rfl (fun K hK => ?_)
              (try simp only [List.getElem_toArray, List.getElem_cons_succ, List.getElem_cons_zero])
              go_simp
              refine hK.out _ _ (fun h => absurd (h.symm.trans (by kernel_rfl)) Bool.false_ne_true) ?_
              clear hK K
              (try simp only [Act.put, List.setIfInBounds_toArray, List.set_cons_zero, List.set_cons_succ])
              refine wpTill_done (by kernel_rfl) ?_ _
              clear l0 l1 l2 y0 y1 y2 hWt2 hC0 hC_1 cc_1 hC_2 cc_2 hC_3 cc_3 hC_4 cc_4 bd0 HCC HCL HM1 HM2 HAD HST1 HST1_b
              have HX3 : Hid (Net.one p i (p i + 1) i = p i + 1) := one_get _ _ _
              obtain ⟨X3, hX3⟩ : ∃ X3 : Int, ((p i + 1 : Nat) : Int) = X3 := ⟨_, rfl⟩
              have HX3E := hide hX3
              have hX30 : 0 ≤ X3 := by omega
              have hX34 : X3 ≤ 5 := by have := unhide HP4 i; omega
              clear hX3
              have k14 := (unhide HST2).k14
              have ⟨kn, fn⟩ := (unhide HST2).kn (j := i) (by omega)
              rw [unhide HX3, unhide HX3E] at kn
              have FN := (unhide HST2).setN i (p i)
              have FBS := (unhide HST2_b).ints (j := i) (x := ((p i : Nat) : Int)) (unhide HST2).cn (by have a := unhide HLB; have h3 := (unhide HST2).o3; have h4 := (unhide HST2).o4; have h5 := (unhide HST2).o5; have h6 := (unhide HST2).o6; have h7 := (unhide HST2).o7; omega)
              have ecast : ((p i : Nat) : Int) = X3 - 1 := by have a := unhide HX3E; omega
              rw [ecast] at FN FBS
              obtain ⟨Wt3, hWt3⟩ : ∃ W, Wt2.setCell ⟨gn, i, none⟩ (.int .i64 (X3 - 1)) = W := ⟨_, rfl⟩
              rw [hWt3] at FN FBS
              rw [one_back p i (p i + 1) rfl] at FN
              have HST3 := hide FN
              have HST3_b := hide FBS
              clear FN ecast FBS
              have egI : Bth.ps FI i + P * ldn x ss N i * bf ss i * (1 - SI) = Bth.ps FI (i + 1) := by
                show _ = Bth.ps FI i + FI i
                rw [← unhide HFI]
                unfold Net.flowIn
                rw [if_neg (by have := unhide HP00; omega)]
                have eS : Bth.ps (fun k => lf ks i k) N = SI := by rw [← unhide HSI, qsum_ps]; rfl
                rw [eS]
                rw [Rat.zero_add]
              have egO : Bth.ps FO i + P * bf qs i = Bth.ps FO (i + 1) := by
                show _ = Bth.ps FO i + FO i
                rw [← unhide HFO]
                unfold Net.flowOut
                rw [if_neg (by have := unhide HP00; omega)]
                rw [Rat.add_zero]
              have HEI := hide egI
              have HEO := hide egO
              have HRQ : Hid (RS (Bth.ps FI i + P * ldn x ss N i * bf ss i * (1 - SI)) ((i + 1) * 1000000000 + 1)) := ((unhide HRI).add ((((unhide HPR).mul (unhide HRR i)).mul (unhide HRS i hlt)).mul (one_RS'.sub' (unhide HSR1)))).mono (by have : XB = 4000000 := rfl; omega)
              have HRO9 : Hid (RS (Bth.ps FO i + P * bf qs i) ((i + 1) * 1000000000 + 1)) := (unhide HRO1).mono (by omega)
              clear egI egO HST2 HST2_b
              go_wp2_with fail
              refine ⟨⟨i + 1, to1, tt2, by go_num, hlt, ?_, ?_, ?_⟩, by simp [intOf]; omega⟩
              · rw [← unhide HEI, ← unhide HEO]; exact unhide HST3
              · rw [← unhide HEO]; exact unhide HRO9
              · rw [← unhide HEI]; exact unhide HRQ
        · obtain rfl : N = i := by omega
          have e7 : ¬ (N : Int) < (N : Int) := by omega
          have k16 : wr.cell? ⟨b16, 0, none⟩ = some (.bool true) := by simp [World.cell?, hS.c16]
          have ⟨c0, c1, c2⟩ := hS.x18.cells _ (Below.refl _ _)
          have ⟨d0, d1, d2⟩ := hS.x19.cells _ (Below.refl _ _)
          have eqq : Bth.ps FO N = Bth.ps FI N := by
            rw [← unhide HFO, ← unhide HFI]
            refine Net.balance (unhide HTRF) (unhide HRM) (fun i hi h0 => ?_)
            unfold lessQ
            rw [← Net.jk_more (n := Net.one p i (p i - 1)) (m := p) N hi (fun j hj => (one_far p hj).symm) (by rw [one_get]; omega)]
            exact unhide HPE
          have HLK := hide (like_any t1.val t2.val (Bth.ps FO N) wr hS.x18.2 (by rw [eqq]; exact hS.x19.2) 6000000000 (hro.mono (by omega)) (by rw [KKe]; omega) (tab_below (unhide HTAB) (below_step (unhide HB5) hS.bl)))
          have HBZ := hide (below_step (unhide HB5) hS.bl)
          clear hS hro hri eqq
          go_wp2_with fail
          (try simp only [Exit.inBlock, Exit.then])
          (try go_wp2_with fail)
          refine (unhide HLK).mono ?_
          rintro e wz ⟨rfl, hbz⟩
          have HBZ2 := hide (below_step (unhide HBZ) hbz)
          clear hbz HLK
          go_wp2
          go_ret
          exact ⟨rfl, unhide HBZ2⟩
end Go.Proofs.YtdaejkngmckmdaaGreatDoor
