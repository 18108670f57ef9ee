/- The document's own ends and counts. -/
import Derived.Test.YtmpigipeajdgcaaDoorL20
namespace Go.Proofs.YtmpigipeajdgcaaDoor
open Go.RowKit Go.Sort

theorem endOf_none (p : Nat → Int) : ∀ (t : Int) (xs : List Nat) (x : Nat), x ∉ xs → Lin.endOf p t xs x = 0
  | _, [], _, _ => rfl
  | t, y :: xs, x, h => by
    show (if x = y then t + p y else Lin.endOf p (t + p y) xs x) = 0
    rw [if_neg (fun e => h (by rw [e]; exact List.mem_cons_self ..))]
    exact endOf_none p (t + p y) xs x (fun hx => h (List.mem_cons_of_mem _ hx))
def REndsPost (w : World) (n : Nat) (f : Nat → T3) (r : Nat → Int) (len : Nat) (e : Ending) (w' : World) : Prop :=
  Below w.heap.size w w' ∧ ((ecode n f r len ≠ 0 ∧ e = .returned (.tuple #[.slice none 0 0, .int .i64 (ecode n f r len)])) ∨ (ecode n f r len = 0 ∧ ∃ G, w.heap.size ≤ G ∧ e = .returned (.tuple #[.slice (some ⟨G, 0, none⟩) n n, .int .i64 0]) ∧ OwnI w' G n (endR f r n)))

set_option maxHeartbeats 8000000 in
set_option maxRecDepth 100000 in
theorem rends_any (a : Option Addr) (n c : Nat) (f : Nat → T3) (ra : Option Addr) (len rc : Nat) (r : Nat → Int) (w : World) (ha : TRow w a n c f) (hr : IRow w ra len rc r) (hlen : len ≤ 100000) :
    Calls Tryd.prog 16 #[.slice a n c, .slice ra len rc] w (REndsPost w n f r len) := by
  have HA := hide ha
  have HR := hide hr
  have HC := hide (rcheck_any a n c f w ha)
  have HO : Hid (∀ W, Below w.heap.size w W → Calls Tryd.prog 15 #[.slice ra len rc, .int .i64 (n : Int)] W fun e w' => e = .returned (.int .i64 (ocode r len n)) ∧ Below W.heap.size W w') := fun W hW => rorder_any ra len rc r n W (hr.below hW) hlen
  have hrc := hr.1
  clear ha hr
  by_cases ht : tcode n f = 0
  case neg =>
    have HE : Hid (ecode n f r len = tcode n f) := by show ecode n f r len = _; unfold ecode; rw [if_pos ht]
    obtain ⟨k, hk⟩ : ∃ k, tcode n f = k := ⟨_, rfl⟩
    rw [hk] at HC HE ht
    have HT := hide ht
    have q1 : (k == 0) = false := by simpa using ht
    clear hk HO
    go_enter Tryd.func16, Tryd.ntmps16
    go_wp2_with fail
    refine (unhide HC).mono ?_
    rintro e w1 ⟨rfl, hb1⟩
    go_wp2
    go_ret2
    refine ⟨hb1, Or.inl ?_⟩
    rw [unhide HE]
    exact ⟨unhide HT, rfl⟩
  rw [ht] at HC
  have HE : Hid (ecode n f r len = ocode r len n) := by show ecode n f r len = _; unfold ecode; rw [if_neg (by rw [ht]; decide)]
  by_cases ho : ocode r len n = 0
  case neg =>
    obtain ⟨k, hk⟩ : ∃ k, ocode r len n = k := ⟨_, rfl⟩
    rw [hk] at HO HE ho
    have HT := hide ho
    have q1 : (k == 0) = false := by simpa using ho
    clear hk ht
    go_enter Tryd.func16, Tryd.ntmps16
    go_wp2_with fail
    refine (unhide HC).mono ?_
    rintro e w1 ⟨rfl, hb1⟩
    have HO1 := hide (unhide HO w1 hb1)
    have HB1 := hide hb1
    clear HO hb1
    go_wp2_with fail
    refine (unhide HO1).mono ?_
    rintro e w2 ⟨rfl, hb2⟩
    have HB2 := hide (below_step (unhide HB1) hb2)
    clear hb2
    go_wp2
    go_ret2
    refine ⟨unhide HB2, Or.inl ?_⟩
    rw [unhide HE]
    exact ⟨unhide HT, rfl⟩
  rw [ho] at HO
  have HE0 : Hid (ecode n f r len = 0) := by show ecode n f r len = 0; rw [unhide HE]; exact ho
  obtain ⟨gT, gR, hl⟩ := egood_of (unhide HE0)
  subst hl
  have HGT := hide gT
  have HGR := hide gR
  have hn60 := gT.few
  clear gT gR ht ho HE
  go_enter Tryd.func16, Tryd.ntmps16
  go_wp2_with fail
  refine (unhide HC).mono ?_
  rintro e w1 ⟨rfl, hb1⟩
  have HO1 := hide (unhide HO w1 hb1)
  have HB1 := hide hb1
  clear HO hb1
  go_wp2_with fail
  refine (unhide HO1).mono ?_
  rintro e w2 ⟨rfl, hb2⟩
  have hb := below_step (unhide HB1) hb2
  have mk := make_ints len (by omega) w2
  have O0 := hide (make_own w2 len)
  have B0 := hide (below_step hb (alloc_below w2 (.cells (lrow (fun _ => 0) len).toArray 3)))
  obtain ⟨W0, hW0⟩ : ∃ W, w2.alloc (.cells (lrow (fun _ => 0) len).toArray 3) = W := ⟨_, rfl⟩
  rw [hW0] at mk O0 B0
  obtain ⟨G, hG⟩ : ∃ G, w2.heap.size = G := ⟨_, rfl⟩
  rw [hG] at mk O0
  have HGe : Hid (w.heap.size ≤ G) := by show _ ≤ _; rw [← hG]; exact hb.size
  clear hW0 hG hb hb2 HO1 HB1 HC
  go_wp2_with fail
  clear mk
  go_loopw [29] (fun vi wr => ∃ k : Nat, vi = .int .i64 (k : Int) ∧ k ≤ len ∧ OwnI wr G len (fun i => Lin.endOf (pT f) 0 (rl r k) i) ∧ Below w.heap.size w wr) (fun vi _ => len - (intOf vi).toNat)
  case atStart => exact ⟨0, rfl, Nat.zero_le _, unhide O0, unhide B0⟩
  case round =>
    obtain ⟨k, rfl, hk, hO, hb⟩ := hrel
    by_cases hlt : k < len
    · obtain ⟨b, o, rfl, hbl, hc3⟩ := (unhide HA).2.2 (by omega)
      obtain ⟨b', o', rfl, hbl', hc1⟩ := (unhide HR).2.2 (by omega)
      have HC3 := hide hc3
      have HC1 := hide hc1
      have hrg := (unhide HGR).rng k hlt
      have hnd := (rl_nodup (unhide HGR) k (by omega)).2 k (Nat.le_refl _) hlt
      obtain ⟨i, hi⟩ : ∃ i : Nat, (r k).toNat = i := ⟨_, rfl⟩
      have hri : r k = (i : Int) := by omega
      have hin : i < len := by omega
      rw [hi] at hnd
      have HND := hide hnd
      have HRI := hide hri
      have HI := hide hi
      have HO := hide hO
      have HB := hide hb
      have e1 : (0 : Int) ≤ (k : Int) := by omega
      have e2 : (k : Int) < (len : Int) := by omega
      obtain ⟨k1, hk1⟩ : ∃ x, k + 1 = x := ⟨_, rfl⟩
      have e6 : IntKind.i64.wrap ((k : Int) + 1) = (k1 : Int) := by rw [IntKind.wrap_i64]; omega
      have HK1 := hide hk1
      have kc : k1 ≤ rc := by omega
      have kc0 : (0 : Int) ≤ (k1 : Int) := by omega
      clear hc3 hc1 hrg hnd hi hri hO hb hk1 O0 B0
      go_wp2_with fail
      clear kc
      go_loopw [37] (fun vj wv => ∃ j : Nat, vj = .int .i64 (j : Int) ∧ j ≤ k1 ∧ OwnI wv G len (updI (fun i => Lin.endOf (pT f) 0 (rl r k) i) i (Lin.psum (pT f) (rl r j))) ∧ Below w.heap.size w wv) (fun vj _ => k1 - (intOf vj).toNat)
      case atStart =>
        refine ⟨0, rfl, Nat.zero_le _, (unhide HO).congr fun j hj => ?_, unhide HB⟩
        unfold updI
        by_cases hji : j = i
        · rw [if_pos hji, hji]
          exact endOf_none _ _ _ _ (unhide HND)
        · rw [if_neg hji]
      case round =>
        obtain ⟨j, rfl, hj, hO, hb⟩ := hrel
        have hk1 := unhide HK1
        by_cases hjl : j < k1
        · have c0 := unhide HC1 j (by omega)
          have c1 := unhide HC1 k hlt
          rw [unhide HRI] at c1
          rw [← hb.cell (p := ⟨b', o' + j, none⟩) hbl'] at c0
          rw [← hb.cell (p := ⟨b', o' + k, none⟩) hbl'] at c1
          have hrj := (unhide HGR).rng j (by omega)
          obtain ⟨v, hv⟩ : ∃ v : Nat, (r j).toNat = v := ⟨_, rfl⟩
          have hrv : r j = (v : Int) := by omega
          rw [hrv] at c0
          have ⟨t0, _, _⟩ := unhide HC3 v (by omega)
          rw [← hb.cell (p := ⟨b, o + v * 3, none⟩) hbl] at t0
          have hp := (unhide HGT).p v (by omega)
          have hps := psum_rl (unhide HGT) (unhide HGR) j (by omega)
          have g1 := hO.cell hin
          have g2 := hO.free i
          unfold updI at g1
          rw [if_pos rfl] at g1
          have FPS : Hid (Lin.psum (pT f) (rl r (j + 1)) = Lin.psum (pT f) (rl r j) + (f v).1) := by
            show Lin.psum (pT f) (rl r (j + 1)) = _
            rw [rl_succ, Lin.psum_append, hv]
            show _ + ((f v).1 + 0) = _
            rw [Int.add_zero]
          obtain ⟨t, ht⟩ : ∃ t, Lin.psum (pT f) (rl r j) = t := ⟨_, rfl⟩
          obtain ⟨x, hx⟩ : ∃ x, (f v).1 = x := ⟨_, rfl⟩
          rw [ht] at g1 hps FPS
          rw [hx] at t0 hp FPS
          have f1 : (0 : Int) ≤ (j : Int) := by omega
          have f2 : (j : Int) < (k1 : Int) := by omega
          have f3 : (0 : Int) ≤ (i : Int) := by omega
          have f4 : (i : Int) < (len : Int) := by omega
          have f5 : (0 : Int) ≤ (v : Int) := by omega
          have f7 : (v : Int) < (len : Int) := by omega
          have f8 : IntKind.i64.wrap (t + x) = t + x := by rw [IntKind.wrap_i64]; omega
          have f9 : IntKind.i64.wrap ((j : Int) + 1) = (j : Int) + 1 := by rw [IntKind.wrap_i64]; omega
          have FIN : Hid (∀ W, Below wr.heap.size wr W → OwnI (W.setCell ⟨G, i, none⟩ (.int .i64 (t + x))) G len (updI (fun i => Lin.endOf (pT f) 0 (rl r k) i) i (Lin.psum (pT f) (rl r (j + 1)))) ∧ Below w.heap.size w (W.setCell ⟨G, i, none⟩ (.int .i64 (t + x)))) := fun W hW => by
            refine ⟨((hO.keep hW).set i (t + x)).congr fun q hq => ?_, (below_step hb hW).setCell (p := ⟨G, i, none⟩) (unhide HGe) _⟩
            unfold updI
            rw [unhide FPS]
            by_cases hqi : q = i
            · rw [if_pos hqi, if_pos hqi]
            · rw [if_neg hqi, if_neg hqi, if_neg hqi]
          have HWB : Hid (∀ W, Below wr.heap.size wr W → (fun w' : World => w'.cell? ⟨b', o' + k, none⟩ = some (.int .i64 (i : Int)) ∧ w'.cell? ⟨G, i, none⟩ = some (.int .i64 t) ∧ w'.cell? ⟨b, o + v * 3, none⟩ = some (.int .i64 x) ∧ w'.frozen? ⟨G, i, none⟩ = false) W) := fun W hW => ⟨by rw [hW.cell (p := ⟨b', o' + k, none⟩) (Nat.lt_of_lt_of_le hbl' hb.size)]; exact c1, by rw [hW.cell (p := ⟨G, i, none⟩) hO.lt]; exact g1, by rw [hW.cell (p := ⟨b, o + v * 3, none⟩) (Nat.lt_of_lt_of_le hbl hb.size)]; exact t0, (hO.keep hW).free i⟩
          clear hrj hv hrv hp hps ht hx hO hb hk1
          go_wp2_with fail
          go_region
          go_wp2
          exact ⟨⟨j + 1, by go_num, hjl, (unhide FIN wr.drew (drew_below _)).1, (unhide FIN wr.drew (drew_below _)).2⟩, by simp [intOf]; omega⟩
        · obtain rfl : j = k1 := by omega
          have f2 : ¬ (j : Int) < (j : Int) := by omega
          have FIN : Hid (OwnI wr G len (fun i => Lin.endOf (pT f) 0 (rl r (k + 1)) i)) := by
            refine hO.congr fun q hq => ?_
            rw [rl_succ, unhide HI, endOf_snoc _ _ _ _ _ (unhide HND)]
            unfold updI
            by_cases hqi : q = i
            · rw [if_pos hqi, if_pos hqi, ← hk1, rl_succ, Lin.psum_append, unhide HI]
              show _ + (pT f i + 0) = 0 + _ + pT f i
              omega
            · rw [if_neg hqi, if_neg hqi]
          have HB2 := hide hb
          clear hO hb
          go_wp2_with fail
          (try simp only [Exit.inBlock, Exit.then])
          (try go_wp2_with fail)
          exact ⟨⟨k + 1, by rw [← hk1], hlt, unhide FIN, unhide HB2⟩, by simp [intOf]; omega⟩
    · obtain rfl : k = len := by omega
      have e1 : ¬ (k : Int) < (k : Int) := by omega
      have HO := hide hO
      have HB := hide hb
      clear hO hb
      go_wp2
      go_ret2
      exact ⟨unhide HB, Or.inr ⟨unhide HE0, G, unhide HGe, rfl, unhide HO⟩⟩

def RCntPost (w : World) (n : Nat) (f : Nat → T3) (r : Nat → Int) (len : Nat) (e : Ending) (w' : World) : Prop :=
  Below w.heap.size w w' ∧ ((ecode n f r len ≠ 0 ∧ e = .returned (.tuple #[.int .i64 0, .int .i64 0, .int .i64 0, .int .i64 (ecode n f r len)])) ∨ (ecode n f r len = 0 ∧ e = .returned (.tuple #[.int .i64 (costV f r n), .int .i64 (lateV f r n), .int .i64 (tardyV f r n), .int .i64 0])))
def lateP (f : Nat → T3) (r : Nat → Int) (n k : Nat) : Int := if k = 0 then 0 else mxs (fun i => endR f r n i - dT f i) k

set_option maxHeartbeats 8000000 in
set_option maxRecDepth 100000 in
theorem rcounts_any (a : Option Addr) (n c : Nat) (f : Nat → T3) (ra : Option Addr) (len rc : Nat) (r : Nat → Int) (w : World) (ha : TRow w a n c f) (hr : IRow w ra len rc r) (hlen : len ≤ 100000) :
    Calls Tryd.prog 19 #[.slice a n c, .slice ra len rc] w (RCntPost w n f r len) := by
  have HA := hide ha
  have HC := hide (rends_any a n c f ra len rc r w ha hr hlen)
  clear ha hr
  go_enter Tryd.func19, Tryd.ntmps19
  go_wp2_with fail
  refine (unhide HC).mono ?_
  rintro e w1 ⟨hb1, hp⟩
  rcases hp with ⟨h1, rfl⟩ | ⟨h1, G, hG, rfl, hO⟩
  · obtain ⟨k, hk⟩ : ∃ k, ecode n f r len = k := ⟨_, rfl⟩
    rw [hk] at h1
    rw [hk]
    have HK := hide hk
    have H1 := hide h1
    have HB := hide hb1
    clear hk h1 hb1
    go_wp2_with fail
    go_loopw [10, 11, 12, 24] (fun v1 v2 v3 vi wr => v1 = .int .i64 0 ∧ v2 = .int .i64 0 ∧ v3 = .int .i64 0 ∧ vi = .int .i64 0 ∧ wr = w1) (fun _ _ _ _ _ => 0)
    case atStart => exact ⟨rfl, rfl, rfl, rfl, rfl⟩
    case round =>
      obtain ⟨rfl, rfl, rfl, rfl, rfl⟩ := hrel
      go_wp2
      (try simp only [Exit.inBlock, Exit.then])
      (try go_wp2)
      refine bodyPost_ret (v := .tuple #[.int .i64 0, .int .i64 0, .int .i64 0, .int .i64 k]) (by simp [results, Tryd.results19, go_sem]) rfl ⟨unhide HB, Or.inl ?_⟩
      rw [unhide HK]
      exact ⟨unhide H1, rfl⟩
  · obtain ⟨gT, gR, hl⟩ := egood_of h1
    have HGT := hide gT
    have HGR := hide gR
    have hn60 := gT.few
    have H1 := hide h1
    have HO := hide hO
    have HB := hide hb1
    clear gT gR hl h1 hO hb1 HC hG
    go_wp2_with fail
    go_loopw [10, 11, 12, 24] (fun vc vl vt vi wr => ∃ k : Nat, vi = .int .i64 (k : Int) ∧ vc = .int .i64 (Lin.ssum (fun i => wT f i * endR f r n i) k) ∧ vl = .int .i64 (lateP f r n k) ∧ vt = .int .i64 (Lin.ssum (fun i => if dT f i < endR f r n i then (1 : Int) else 0) k) ∧ k ≤ n ∧ wr = w1) (fun _ _ _ vi _ => n - (intOf vi).toNat)
    case atStart => exact ⟨0, rfl, rfl, rfl, rfl, Nat.zero_le _, rfl⟩
    case round =>
      obtain ⟨k, rfl, rfl, rfl, rfl, hk, rfl⟩ := hrel
      by_cases hlt : k < n
      · obtain ⟨b, o, rfl, hbl, hc3⟩ := ((unhide HA).below (unhide HB)).2.2 (by omega)
        have ⟨_, k1, k2⟩ := hc3 k hlt
        have g1 := (unhide HO).cell hlt
        have hw := (unhide HGT).w k hlt
        have hd := (unhide HGT).d k hlt
        have he := endR_bd (unhide HGT) (unhide HGR) k
        have hs := cost_bd (unhide HGT) (unhide HGR) k (by omega)
        have hs2 := cost_bd (unhide HGT) (unhide HGR) (k + 1) (by omega)
        have ht := tardy_bd (n := n) (f := f) (r := r) k
        have hs3 : Lin.ssum (fun i => wT f i * endR f r n i) (k + 1) = Lin.ssum (fun i => wT f i * endR f r n i) k + (f k).2.1 * endR f r n k := rfl
        have ht3 : Lin.ssum (fun i => if dT f i < endR f r n i then (1 : Int) else 0) (k + 1) = Lin.ssum (fun i => if dT f i < endR f r n i then (1 : Int) else 0) k + (if (f k).2.2 < endR f r n k then (1 : Int) else 0) := rfl
        have hl3 : lateP f r n (k + 1) = max (mxs (fun i => endR f r n i - dT f i) k) (endR f r n k - (f k).2.2) := by unfold lateP; rw [if_neg (by omega)]; rfl
        have hl4 : lateP f r n k = if k = 0 then 0 else mxs (fun i => endR f r n i - dT f i) k := rfl
        have hl5 : k = 0 → mxs (fun i => endR f r n i - dT f i) k = endR f r n k - (f k).2.2 := fun e => by subst e; rfl
        obtain ⟨T, hT⟩ : ∃ t, Lin.ssum (fun i => wT f i * endR f r n i) k = t := ⟨_, rfl⟩
        obtain ⟨S, hS⟩ : ∃ t, Lin.ssum (fun i => if dT f i < endR f r n i then (1 : Int) else 0) k = t := ⟨_, rfl⟩
        obtain ⟨L, hL⟩ : ∃ t, lateP f r n k = t := ⟨_, rfl⟩
        obtain ⟨X, hX⟩ : ∃ t, mxs (fun i => endR f r n i - dT f i) k = t := ⟨_, rfl⟩
        obtain ⟨y, hy⟩ : ∃ y, (f k).2.1 = y := ⟨_, rfl⟩
        obtain ⟨z, hz⟩ : ∃ y, (f k).2.2 = y := ⟨_, rfl⟩
        obtain ⟨u, hu⟩ : ∃ u, endR f r n k = u := ⟨_, rfl⟩
        rw [hy] at k1 hw
        rw [hz] at k2 hd
        rw [hu] at g1 he
        rw [hT] at hs ⊢
        rw [hS] at ht ⊢
        rw [hL]
        rw [hs3, hT, hy, hu] at hs2
        rw [hT, hy, hu] at hs3
        rw [hS, hz, hu] at ht3
        rw [hX, hz, hu] at hl3
        rw [hL, hX] at hl4
        rw [hX, hz, hu] at hl5
        obtain ⟨m, hm⟩ : ∃ m, y * u = m := ⟨_, rfl⟩
        rw [hm] at hs2 hs3
        obtain ⟨dd, hdd⟩ : ∃ d, u - z = d := ⟨_, rfl⟩
        rw [hdd] at hl3 hl5
        have e1 : (0 : Int) ≤ (k : Int) := by omega
        have e2 : (k : Int) < (n : Int) := by omega
        have e3 : IntKind.i64.wrap (y * u) = m := by rw [hm, IntKind.wrap_i64]; omega
        have e4 : IntKind.i64.wrap (T + m) = T + m := by rw [IntKind.wrap_i64]; omega
        have e5 : IntKind.i64.wrap (u - z) = dd := by rw [hdd, IntKind.wrap_i64]; omega
        have e6 : IntKind.i64.wrap ((k : Int) + 1) = (k : Int) + 1 := by rw [IntKind.wrap_i64]; omega
        have e7 : IntKind.i64.wrap (S + 1) = S + 1 := by rw [IntKind.wrap_i64]; omega
        have HS3 := hide hs3
        have HT3 : Hid (Lin.ssum (fun i => if dT f i < endR f r n i then (1 : Int) else 0) (k + 1) = S + (if 0 < dd then (1 : Int) else 0)) := by
          show Lin.ssum _ (k + 1) = _
          rw [ht3]
          congr 1
          by_cases c0 : z < u
          · rw [if_pos c0, if_pos (by omega)]
          · rw [if_neg c0, if_neg (by omega)]
        have HL3 : Hid (lateP f r n (k + 1) = if k = 0 then dd else if L < dd then dd else L) := by
          show lateP f r n (k + 1) = _
          rw [hl3]
          by_cases c0 : k = 0
          · rw [if_pos c0, hl5 c0]; omega
          · rw [if_neg c0] at hl4 ⊢
            rw [hl4]
            split <;> omega
        clear hc3 hw hd he hs hs2 ht hs3 ht3 hl3 hl4 hl5 hT hS hL hX hy hz hu hm hdd
        by_cases d0 : 0 < dd
        · rw [if_pos d0] at HT3
          by_cases hk0 : k = 0
          · subst hk0
            rw [if_pos rfl] at HL3
            go_wp2
            exact ⟨⟨0 + 1, by go_num, by rw [unhide HS3], by rw [unhide HL3], by rw [unhide HT3], hlt, by trivial⟩, by simp [intOf]; omega⟩
          · rw [if_neg hk0] at HL3
            have q1 : ((k : Int) == 0) = false := by simp; omega
            by_cases hld : L < dd
            · rw [if_pos hld] at HL3
              clear hk0
              go_wp2
              exact ⟨⟨k + 1, by go_num, by rw [unhide HS3], by rw [unhide HL3], by rw [unhide HT3], hlt, by trivial⟩, by simp [intOf]; omega⟩
            · rw [if_neg hld] at HL3
              clear hk0
              go_wp2
              exact ⟨⟨k + 1, by go_num, by rw [unhide HS3], by rw [unhide HL3], by rw [unhide HT3], hlt, by trivial⟩, by simp [intOf]; omega⟩
        · rw [if_neg d0, Int.add_zero] at HT3
          by_cases hk0 : k = 0
          · subst hk0
            rw [if_pos rfl] at HL3
            go_wp2
            exact ⟨⟨0 + 1, by go_num, by rw [unhide HS3], by rw [unhide HL3], by rw [unhide HT3], hlt, by trivial⟩, by simp [intOf]; omega⟩
          · rw [if_neg hk0] at HL3
            have q1 : ((k : Int) == 0) = false := by simp; omega
            by_cases hld : L < dd
            · rw [if_pos hld] at HL3
              clear hk0
              go_wp2
              exact ⟨⟨k + 1, by go_num, by rw [unhide HS3], by rw [unhide HL3], by rw [unhide HT3], hlt, by trivial⟩, by simp [intOf]; omega⟩
            · rw [if_neg hld] at HL3
              clear hk0
              go_wp2
              exact ⟨⟨k + 1, by go_num, by rw [unhide HS3], by rw [unhide HL3], by rw [unhide HT3], hlt, by trivial⟩, by simp [intOf]; omega⟩
      · obtain rfl : k = n := by omega
        have e1 : ¬ (k : Int) < (k : Int) := by omega
        have HV : Hid (Lin.ssum (fun i => wT f i * endR f r k i) k = costV f r k ∧ lateP f r k k = lateV f r k ∧ Lin.ssum (fun i => if dT f i < endR f r k i then (1 : Int) else 0) k = tardyV f r k) := ⟨rfl, rfl, rfl⟩
        obtain ⟨v1, hv1⟩ : ∃ v, Lin.ssum (fun i => wT f i * endR f r k i) k = v := ⟨_, rfl⟩
        obtain ⟨v2, hv2⟩ : ∃ v, lateP f r k k = v := ⟨_, rfl⟩
        obtain ⟨v3, hv3⟩ : ∃ v, Lin.ssum (fun i => if dT f i < endR f r k i then (1 : Int) else 0) k = v := ⟨_, rfl⟩
        rw [hv1, hv2, hv3] at HV ⊢
        clear hv1 hv2 hv3
        go_wp2
        (try simp only [Exit.inBlock, Exit.then])
        (try go_wp2)
        refine bodyPost_ret (v := .tuple #[.int .i64 v1, .int .i64 v2, .int .i64 v3, .int .i64 0]) (by simp [results, Tryd.results19, go_sem]) rfl ⟨unhide HB, Or.inr ⟨unhide H1, ?_⟩⟩
        rw [← (unhide HV).1, ← (unhide HV).2.1, ← (unhide HV).2.2]
end Go.Proofs.YtmpigipeajdgcaaDoor
