/- The document's Far, PeopleCheck, Sum20, Branches. -/
import Derived.Test.YtcmddkekidgkoaaDoorTL3
namespace Go.Proofs.YtcmddkekidgkoaaDoor
open Go.RowKit Go.Sort Go.Shelf

theorem runK_all {m : Nat} {f : Nat → T3} {p : Nat} {out : Nat → Int} (h : RunK m f (-1) p out) : Tre.Run m (eA f) (eB f) (eL f) (fun _ => True) p out :=
  Tre.Run.ind (P := fun out => Tre.Run m (eA f) (eB f) (eL f) (fun _ => True) p out) h (Tre.Run.start _ _ _ _ _ _) (fun _ _ _ _ _ hp hi _ hinc hh hx => hp.step hi trivial hinc hh hx)
theorem endK_all {m : Nat} {f : Nat → T3} {out : Nat → Int} (h : Tre.Ended m (eA f) (eB f) (okE (-1)) out) : Tre.Ended m (eA f) (eB f) (fun _ => True) out := fun e he _ => h e he (by unfold okE; omega)
theorem runK_k {m k : Nat} {f : Nat → T3} {p : Nat} {out : Nat → Int} (h : RunK m f (k : Int) p out) : Tre.Run m (eA f) (eB f) (eL f) (fun i => i ≠ k) p out :=
  Tre.Run.ind (P := fun out => Tre.Run m (eA f) (eB f) (eL f) (fun i => i ≠ k) p out) h (Tre.Run.start _ _ _ _ _ _) (fun _ _ _ _ _ hp hi hok hinc hh hx => hp.step hi (by unfold okE at hok; omega) hinc hh hx)
theorem endK_k {m k : Nat} {f : Nat → T3} {out : Nat → Int} (h : Tre.Ended m (eA f) (eB f) (okE (k : Int)) out) : Tre.Ended m (eA f) (eB f) (fun i => i ≠ k) out := fun e he hne => h e he (by unfold okE; omega)
set_option maxHeartbeats 16000000 in
set_option maxRecDepth 100000 in
theorem rFar_any (n : Nat) (a : Option Addr) (m c : Nat) (f : Nat → T3) (s : Nat → Nat → Bool) (p : Nat) (w : World) (ha : TRow w a m c f) (H : GTree n m f s) (hp : p < n) :
    Calls Tryd.prog 16 #[.int .i64 (n : Int), .slice a m c, .int .i64 (p : Int)] w (FarT w n m f s p) := by
  have HF := hide (rfar_any n a m c f p (-1) w ha H.one H.few (by have := H.mn; have := H.few; omega) hp H.good)
  have HT := hide H
  have q1 := ha.1
  have q2 := ha.2.1
  clear ha H
  go_enter Tryd.func16, Tryd.ntmps16
  go_wp2_with fail
  refine (unhide HF).mono ?_
  rintro e w1 ⟨G, out, hG, rfl, hO, hr, he, hb⟩
  have HFIN : Hid (FarT w n m f s p (.returned (.slice (some ⟨G, 0, none⟩) n n)) w1) := ⟨G, hG, rfl, hO.congr (fun j hj => Tre.search_far (unhide HT).tr (unhide HT).good.lpos hp (runK_all hr) (endK_all he) j hj), hb⟩
  clear hO hr he hb hG HF
  go_wp2
  go_ret
  exact unhide HFIN
set_option maxHeartbeats 16000000 in
set_option maxRecDepth 100000 in
theorem rpeople_any (N : Int) (a : Option Addr) (m c : Nat) (f : Nat → T3) (pa : Option Addr) (pn pc : Nat) (P : Nat → Int) (cu : Bool) (w : World) (hN : I64 N) (hcu : Cu N.toNat m f cu) (ha : TRow w a m c f) (hp : IRow w pa pn pc P) (hpn : pn ≤ 1000) :
    Calls Tryd.prog 19 #[.int .i64 N, .slice a m c, .slice pa pn pc] w fun e w' => e = .returned (.int .i64 (pcode N m f cu pn P)) ∧ Below w.heap.size w w' := by
  have HC := hide (rtcheck_any N a m c f cu w hN hcu ha)
  have HP := hide hp
  have q1 := ha.1
  have q2 := ha.2.1
  have q3 := hp.1
  have q4 := hp.2.1
  clear ha hp
  by_cases hk : kcode N m f cu = 0
  case neg =>
    have HE : Hid (pcode N m f cu pn P = kcode N m f cu) := if_pos hk
    obtain ⟨k, hk2⟩ : ∃ k, kcode N m f cu = k := ⟨_, rfl⟩
    rw [hk2] at HC HE hk
    have e0 : (k != 0) = true := by simpa using hk
    clear hk hk2 hcu
    go_enter Tryd.func19, Tryd.ntmps19
    go_wp2_with fail
    refine (unhide HC).mono ?_
    rintro e w1 ⟨rfl, hb1⟩
    go_wp2
    go_ret
    exact ⟨by rw [unhide HE]; rfl, hb1⟩
  rw [hk] at HC
  by_cases hl : (pn : Int) = N
  case neg =>
    have HE : Hid (pcode N m f cu pn P = 3) := by show pcode _ _ _ _ _ _ = _; unfold pcode; rw [if_neg (by simpa using hk), if_pos hl]
    have e0 : ((pn : Int) != N) = true := by simpa using hl
    clear hk hl hcu
    go_enter Tryd.func19, Tryd.ntmps19
    go_wp2_with fail
    refine (unhide HC).mono ?_
    rintro e w1 ⟨rfl, hb1⟩
    go_wp2
    go_ret
    exact ⟨by rw [unhide HE]; rfl, hb1⟩
  have e0 : ((pn : Int) != N) = false := by simpa using hl
  have HE : Hid (pcode N m f cu pn P = if anyP P pn then 2 else 0) := by show pcode _ _ _ _ _ _ = _; unfold pcode; rw [if_neg (by simpa using hk), if_neg (by simpa using hl)]
  clear hk hl hcu
  go_enter Tryd.func19, Tryd.ntmps19
  go_wp2_with fail
  refine (unhide HC).mono ?_
  rintro e w1 ⟨rfl, hb1⟩
  have HB := hide hb1
  have HP1 := hide ((unhide HP).below hb1)
  clear hb1 HP HC
  go_wp2_with fail
  clear e0
  go_loopw [22] (fun vi wr => ∃ i : Nat, vi = .int .i64 (i : Int) ∧ i ≤ pn ∧ (∀ j, j < i → pbad (P j) = false) ∧ wr = w1) (fun vi _ => pn - (intOf vi).toNat)
  case atStart => exact ⟨0, rfl, Nat.zero_le _, fun j hj => absurd hj (Nat.not_lt_zero _), rfl⟩
  case round =>
    obtain ⟨i, rfl, hi, hj, rfl⟩ := hrel
    by_cases hlt : i < pn
    · obtain ⟨b, o, rfl, hbl, hc⟩ := (unhide HP1).2.2 (by omega)
      have k0 := hc i hlt
      obtain ⟨x, hx⟩ : ∃ x, P i = x := ⟨_, rfl⟩
      rw [hx] at k0
      have HX := hide hx
      have HJ := hide hj
      have e2 : (0 : Int) ≤ (i : Int) := by omega
      have e3 : (i : Int) < (pn : Int) := by omega
      have e4 : IntKind.i64.wrap ((i : Int) + 1) = ((i + 1 : Nat) : Int) := by rw [IntKind.wrap_i64]; omega
      clear hc hx hj
      have hbd : ∀ h : x < 0 ∨ 10000 < x, pcode N m f cu pn P = 2 := fun h => by
        rw [unhide HE, if_pos]
        exact ppl_true hlt (by rw [unhide HX]; exact decide_eq_true h)
      have HBD := hide hbd
      clear hbd
      by_cases g0 : x < 0
      · have HV := hide (unhide HBD (Or.inl g0))
        go_wp2
        go_ret
        exact ⟨by rw [unhide HV]; rfl, unhide HB⟩
      by_cases g1 : 10000 < x
      · have HV := hide (unhide HBD (Or.inr g1))
        go_wp2
        go_ret
        exact ⟨by rw [unhide HV]; rfl, unhide HB⟩
      have HG : Hid (pbad (P i) = false) := by show pbad (P i) = false; rw [unhide HX]; exact decide_eq_false (by omega)
      go_wp2
      refine ⟨⟨i + 1, rfl, hlt, fun j hj => ?_, by first | rfl | trivial⟩, by simp [intOf]; omega⟩
      by_cases c : j = i
      · rw [c]; exact unhide HG
      · exact unhide HJ j (by omega)
    · obtain rfl : i = pn := by omega
      have e3 : ¬ (i : Int) < (i : Int) := by omega
      have HV : Hid (pcode N m f cu i P = 0) := by
        show pcode _ _ _ _ _ _ = _
        rw [unhide HE, show anyP P i = false from ppl_false hj]; rfl
      clear hj
      go_wp2
      go_ret
      exact ⟨by rw [unhide HV]; rfl, unhide HB⟩
set_option maxHeartbeats 16000000 in
set_option maxRecDepth 100000 in
theorem rsum_any (n : Nat) (a : Option Addr) (m c : Nat) (f : Nat → T3) (s : Nat → Nat → Bool) (pa : Option Addr) (pc : Nat) (P : Nat → Int) (p : Nat) (w : World) (ha : TRow w a m c f) (hpr : IRow w pa n pc P) (H : GTree n m f s) (hP : GoodP n P) (hp : p < n) :
    Calls Tryd.prog 20 #[.int .i64 (n : Int), .slice a m c, .slice pa n pc, .int .i64 (p : Int)] w fun e w' => e = .returned (.int .i64 (sumT n m f s P p)) ∧ Below w.heap.size w w' := by
  have HF := hide (rFar_any n a m c f s p w ha H hp)
  have HP := hide hpr
  have HT := hide H
  have HG := hide hP
  have h1 := H.few
  have h0 := H.one
  have q1 := ha.1
  have q2 := ha.2.1
  have q3 := hpr.1
  have q4 := hpr.2.1
  clear ha hpr H hP
  go_enter Tryd.func20, Tryd.ntmps20
  go_wp2_with fail
  refine (unhide HF).mono ?_
  rintro e w1 ⟨G, hG, rfl, hO, hb⟩
  obtain ⟨pb, po, rfl, hbl, hpc⟩ := (unhide HP).2.2 (by omega)
  have HOW := hide hO
  have HB := hide hb
  have HPC : Hid (∀ j, j < n → w1.cell? ⟨pb, po + j, none⟩ = some (.int .i64 (P j))) := fun j hj => by rw [hb.cell (p := ⟨pb, po + j, none⟩) hbl]; exact hpc j hj
  clear hO hb hG hpc HF
  go_wp2_with fail
  go_loopw [17, 9] (fun vi va wr => ∃ k : Nat, vi = .int .i64 (k : Int) ∧ va = .int .i64 (Tre.sm (fun v => P v * dist m f s p v) k) ∧ k ≤ n ∧ wr = w1) (fun vi _ _ => n - (intOf vi).toNat)
  case atStart => exact ⟨0, rfl, rfl, Nat.zero_le _, rfl⟩
  case round =>
    obtain ⟨k, rfl, rfl, hk, rfl⟩ := hrel
    by_cases hlt : k < n
    · have c0 := (unhide HOW).cell hlt
      have c1 := unhide HPC k hlt
      have bd0 := dist_bd (unhide HT) p k
      have bd1 := unhide HG k hlt
      have bd2 := sumk_bd (unhide HT) (unhide HG) p k hk
      have bd3 := mul_bd bd1 bd0
      have HS : Hid (Tre.sm (fun v => P v * dist m f s p v) (k + 1) = Tre.sm (fun v => P v * dist m f s p v) k + P k * dist m f s p k) := rfl
      obtain ⟨d, hd⟩ : ∃ d, dist m f s p k = d := ⟨_, rfl⟩
      obtain ⟨y, hy⟩ : ∃ y, P k = y := ⟨_, rfl⟩
      obtain ⟨t, ht⟩ : ∃ t, Tre.sm (fun v => P v * dist m f s p v) k = t := ⟨_, rfl⟩
      rw [hd] at c0 bd3 HS
      rw [hy] at c1 bd3 HS
      rw [ht] at bd2 HS ⊢
      obtain ⟨z, hz⟩ : ∃ z, y * d = z := ⟨_, rfl⟩
      rw [hz] at bd3 HS
      have f1 : IntKind.i64.wrap (d * y) = z := by rw [Int.mul_comm, hz, IntKind.wrap_i64]; omega
      have f2 : IntKind.i64.wrap (t + z) = t + z := by rw [IntKind.wrap_i64]; omega
      have e1 : (0 : Int) ≤ (k : Int) := by omega
      have e2 : (k : Int) < (n : Int) := by omega
      clear bd0 bd1 bd2 bd3 hd hy ht hz
      go_wp2
      exact ⟨⟨k + 1, by go_num, by rw [unhide HS], hlt, by first | rfl | trivial⟩, by simp [intOf]; omega⟩
    · obtain rfl : k = n := by omega
      have e1 : ¬ (k : Int) < (k : Int) := by omega
      have HFIN : Hid (Tre.sm (fun v => P v * dist m f s p v) k = sumT k m f s P p) := rfl
      obtain ⟨t, ht⟩ : ∃ t, Tre.sm (fun v => P v * dist m f s p v) k = t := ⟨_, rfl⟩
      rw [ht] at HFIN ⊢
      clear ht
      go_wp2
      go_ret
      exact ⟨by rw [unhide HFIN]; rfl, unhide HB⟩

theorem other_ps {n m k p : Nat} {f : Nat → T3} {s : Nat → Nat → Bool} {P out : Nat → Int} (H : GTree n m f s) (hk : k < m) (hp : p < n) (hr : RunK m f (k : Int) p out) (he : Tre.Ended m (eA f) (eB f) (okE (k : Int)) out) :
    ∀ j, j ≤ n → Tre.sm (fun v => if out v < 0 then P v else 0) j = Tre.sm (fun v => if s k v = s k p then 0 else P v) j := fun j hj => by
  have hs := Tre.search_side H.tr hp hk (runK_k hr) (endK_k he)
  have hlow := fun v => hr.low H.good.lpos v
  refine Tre.sm_congr j (fun v hv => ?_)
  show (if out v < 0 then P v else 0) = (if s k v = s k p then 0 else P v)
  have h1 := hs v (by omega)
  have h2 := hlow v
  by_cases c : out v < 0
  · rw [if_pos c, if_neg (fun e => h1.2 e (by omega))]
  · rw [if_neg c, if_pos (h1.1 (by omega))]
theorem neg_bd {n : Nat} {out P : Nat → Int} (hP : GoodP n P) : ∀ k, k ≤ n → 0 ≤ Tre.sm (fun v => if out v < 0 then P v else 0) k ∧ Tre.sm (fun v => if out v < 0 then P v else 0) k ≤ 10000 * k
  | 0, _ => by show (0 : Int) ≤ 0 ∧ (0 : Int) ≤ 10000 * ((0 : Nat) : Int); omega
  | k + 1, hk => by
    have ih := neg_bd hP (out := out) k (by omega)
    have := hP k hk
    rw [Tre.sm_succ]
    split <;> omega
set_option maxHeartbeats 16000000 in
set_option maxRecDepth 100000 in
theorem rbranches_any (n : Nat) (a : Option Addr) (m c : Nat) (f : Nat → T3) (s : Nat → Nat → Bool) (pa : Option Addr) (pc : Nat) (P : Nat → Int) (p : Nat) (w : World) (ha : TRow w a m c f) (hp : IRow w pa n pc P) (H : GTree n m f s) (hP : GoodP n P) (hpl : p < n) :
    Calls Tryd.prog 21 #[.int .i64 (n : Int), .slice a m c, .slice pa n pc, .int .i64 (p : Int)] w fun e w' => ∃ v, e = .returned v ∧ OwnL w' w.heap.size v (brs n f s P p m) ∧ Below w.heap.size w w' := by
  have HA := hide ha
  have HP := hide hp
  have HT := hide H
  have HG := hide hP
  have h60 := H.few
  have h01 := H.one
  have hmn := H.mn
  have hm60 : m ≤ 59 := by omega
  obtain ⟨ti, hti, hz0, hz1, hz2⟩ := info_parts Tryd.infoI
  have HI := hide hti
  have HZ := hide hz0
  have q1 := ha.1
  have q2 := ha.2.1
  have q3 := hp.1
  have q4 := hp.2.1
  clear ha hp H hP hmn hti hz0
  go_enter Tryd.func21, Tryd.ntmps21
  go_wp2_with fail
  go_loopw [17, 9] (fun vi vo wr => ∃ i : Nat, vi = .int .i64 (i : Int) ∧ i ≤ m ∧ OwnL wr w.heap.size vo (brs n f s P p i) ∧ Below w.heap.size w wr) (fun vi _ _ => m - (intOf vi).toNat)
  case atStart => exact ⟨0, rfl, Nat.zero_le _, OwnL.start _ _, Below.refl _ _⟩
  case round =>
    obtain ⟨i, rfl, hi, hO, hb⟩ := hrel
    by_cases hlt : i < m
    · obtain ⟨b, oo, rfl, hbl, hc3⟩ := ((unhide HA).below hb).2.2 (by omega)
      have ⟨k0, k1, k2⟩ := hc3 i hlt
      obtain ⟨⟨x, y, z⟩, ht⟩ : ∃ t, f i = t := ⟨_, rfl⟩
      rw [ht] at k0 k1 k2
      simp only at k0 k1 k2
      have e3 : (0 : Int) ≤ (i : Int) := by omega
      have e4 : (i : Int) < (m : Int) := by omega
      have e7 : IntKind.i64.wrap ((i : Int) + 1) = ((i + 1 : Nat) : Int) := by rw [IntKind.wrap_i64]; omega
      have ⟨x0, x1, x2⟩ := box3 (w := wr) (x := .int .i64 x) (y := .int .i64 y) (z := .int .i64 z) (T := 82) (Below.refl _ _)
      have ba := alloc_below wr (.cells #[.int .i64 x, .int .i64 y, .int .i64 z] 82)
      obtain ⟨W1, hW1⟩ : ∃ W, wr.alloc (.cells #[.int .i64 x, .int .i64 y, .int .i64 z] 82) = W := ⟨_, rfl⟩
      rw [hW1] at ba x0 x1 x2
      have HO := hide (hO.keep ba)
      have HB := hide (below_step hb ba)
      have hcase := oth_inc (unhide HT).good hlt hpl
      rw [ht] at hcase
      have HBS : Hid (brs n f s P p (i + 1) = if (oth (x, y, z) (p : Int)).2 then brs n f s P p i ++ [Tre.Ps n s P i p] else brs n f s P p i) := by show _ = _; rw [← ht]; rfl
      have HFR := hide (rfar_any n (some ⟨b, oo, none⟩) m c f p (i : Int) W1 ((unhide HA).below (unhide HB)) h01 h60 (by omega) hpl (unhide HT).good)
      clear hO hb ht hc3 ba
      by_cases hno : oth (x, y, z) (p : Int) = (0, false)
      · rw [hno] at HBS
        have HBS2 : Hid (brs n f s P p (i + 1) = brs n f s P p i) := by show _ = _; rw [unhide HBS]; rfl
        have hxy : x ≠ (p : Int) ∧ y ≠ (p : Int) := by
          unfold oth at hno
          by_cases c1 : (p : Int) = x
          · rw [if_pos c1] at hno; cases hno
          · rw [if_neg c1] at hno
            by_cases c2 : (p : Int) = y
            · rw [if_pos c2] at hno; cases hno
            · exact ⟨fun e => c1 e.symm, fun e => c2 e.symm⟩
        have d1 : (x == (p : Int)) = false := by simpa using hxy.1
        have d2 : (y == (p : Int)) = false := by simpa using hxy.2
        clear hno hxy hcase HBS HFR
        go_wp2
        exact ⟨⟨i + 1, rfl, hlt, by rw [unhide HBS2]; exact unhide HO, unhide HB⟩, by simp [intOf]; omega⟩
      have hyes : (oth (x, y, z) (p : Int)).2 = true ∧ (x = (p : Int) ∨ y = (p : Int)) := by
        rcases hcase with ⟨q, _, hox, hinc, _⟩ | ⟨hox, _⟩
        · refine ⟨by rw [hox], ?_⟩
          unfold oth at hno
          by_cases c1 : (p : Int) = x
          · exact Or.inl c1.symm
          · rw [if_neg c1] at hno
            by_cases c2 : (p : Int) = y
            · exact Or.inr c2.symm
            · rw [if_neg c2] at hno; exact absurd rfl hno
        · exact absurd hox hno
      rw [hyes.1] at HBS
      have hxy := hyes.2
      clear hno hyes hcase
      have TAIL : True := trivial
      by_cases d1 : x = (p : Int)
      case' pos => have d2 : (x == (p : Int)) = true := by simpa using d1
      case' neg =>
        have d2 : (x == (p : Int)) = false := by simpa using d1
        have d3 : (y == (p : Int)) = true := by simp; omega
      all_goals
        clear d1 hxy TAIL
        go_wp2_with fail
        refine (unhide HFR).mono ?_
        rintro e w2 ⟨G, out, hG, rfl, hOO, hr, he, hb2⟩
        have HPS := hide (other_ps (P := P) (unhide HT) hlt hpl hr he n (Nat.le_refl _))
        have HOO := hide hOO
        have HO2 := hide ((unhide HO).keep hb2)
        have HB2 := hide (below_step (unhide HB) hb2)
        have HP2 := hide ((unhide HP).below (unhide HB2))
        clear hG hOO hr he hb2 HFR HO HB hW1 x0 x1 x2 k0 k1 k2
        go_wp2_with fail
        go_loopw [38, 12] (fun vj vn w3 => ∃ j : Nat, vj = .int .i64 (j : Int) ∧ j ≤ n ∧ vn = .int .i64 (Tre.sm (fun v => if out v < 0 then P v else 0) j) ∧ w3 = w2) (fun vj _ _ => n - (intOf vj).toNat)
        case atStart => exact ⟨0, rfl, Nat.zero_le _, rfl, rfl⟩
        case round =>
          obtain ⟨j, rfl, hj, rfl, rfl⟩ := hrel
          by_cases hlj : j < n
          · obtain ⟨pb, po, rfl, hpb, hpcc⟩ := (unhide HP2).2.2 (by omega)
            have c0 := (unhide HOO).cell hlj
            have c1 := hpcc j hlj
            have bd1 := unhide HG j hlj
            have bd2 := neg_bd (unhide HG) (out := out) j hj
            have HSS : Hid (Tre.sm (fun v => if out v < 0 then P v else 0) (j + 1) = Tre.sm (fun v => if out v < 0 then P v else 0) j + if out j < 0 then P j else 0) := rfl
            obtain ⟨ox, hox⟩ : ∃ q, out j = q := ⟨_, rfl⟩
            obtain ⟨py, hpy⟩ : ∃ q, P j = q := ⟨_, rfl⟩
            obtain ⟨sm, hsm⟩ : ∃ q, Tre.sm (fun v => if out v < 0 then P v else 0) j = q := ⟨_, rfl⟩
            rw [hox] at c0 HSS
            rw [hpy] at c1 bd1 HSS
            rw [hsm] at bd2 HSS ⊢
            have f1 : (0 : Int) ≤ (j : Int) := by omega
            have f2 : (j : Int) < (n : Int) := by omega
            have f3 : IntKind.i64.wrap ((j : Int) + 1) = ((j + 1 : Nat) : Int) := by rw [IntKind.wrap_i64]; omega
            have f4 : IntKind.i64.wrap (sm + py) = sm + py := by rw [IntKind.wrap_i64]; omega
            clear hpcc bd1 bd2 hox hpy hsm
            by_cases hneg : ox < 0
            · have HS2 : Hid (Tre.sm (fun v => if out v < 0 then P v else 0) (j + 1) = sm + py) := by show _ = _; rw [unhide HSS, if_pos hneg]
              go_wp2
              exact ⟨⟨j + 1, rfl, hlj, by rw [unhide HS2], by first | rfl | trivial⟩, by simp [intOf]; omega⟩
            · have HS2 : Hid (Tre.sm (fun v => if out v < 0 then P v else 0) (j + 1) = sm) := by show _ = _; rw [unhide HSS, if_neg hneg]; omega
              go_wp2
              exact ⟨⟨j + 1, rfl, hlj, by rw [unhide HS2], by first | rfl | trivial⟩, by simp [intOf]; omega⟩
          · obtain rfl : j = n := by omega
            obtain ⟨w9, rfl⟩ : ∃ W, W = wr := ⟨_, rfl⟩
            have f2 : ¬ (j : Int) < (j : Int) := by omega
            obtain ⟨V, hV⟩ : ∃ V, Tre.sm (fun v => if out v < 0 then P v else 0) j = V := ⟨_, rfl⟩
            have hVP : V = Tre.Ps j s P i p := by rw [← hV]; exact unhide HPS
            rw [hV]
            have O4 := (unhide HO2).keep (alloc_below w9 (.cells #[.int .i64 V] 3))
            have HO4 := hide O4
            have QLE := brs_len j f s P p i
            have Q63 : Hid ((brs j f s P p i).length + 1 ≤ maxLen) := by show _ ≤ _; unfold maxLen; omega
            have Q8 : Hid (((brs j f s P p i).length + 1) * 8 ≤ 140737488355328) := by show _ ≤ _; omega
            have QB : Hid (w.heap.size ≤ (w9.alloc (.cells #[.int .i64 V] 3)).heap.size) := Nat.le_trans (unhide HB2).size (alloc_below w9 _).size
            have HBS2 : Hid (brs j f s P p (i + 1) = brs j f s P p i ++ [V]) := by show _ = _; rw [unhide HBS, hVP]; rfl
            clear hV hVP O4 QLE HBS HPS HOO HP2
            go_wp2_with (at_builtin; go_loud (refine wpList_append_lies _ rfl _ _ _ rfl w.heap.size 3 ti (.int .i64 0) 1 8 Tryd.underlying31 (unhide HI) (unhide HZ) hz1 hz2 rfl (by decide) _ (brs j f s P p i).length ((brs j f s P p i).map (Value.int .i64 ·)) rfl (unhide HO4) ⟨w9.heap.size, 0, none⟩ 1 1 [.int .i64 V] rfl rfl (news_int w9 V _) (one_int _) (by decide) (unhide Q63) (unhide Q8) (unhide QB) (w9.heap.size + 1) (alloc_size _ _) ?_; intro g8 cap8 w8 own8 grow8 hat8 hlt8; have HO8 := hide (OwnL.push own8); have HB8 := hide (OwnL.grow (unhide HO2) (unhide HB2) (Nat.le_refl _) (alloc_below w9 _) grow8); clear own8 grow8 hat8 hlt8))
            exact ⟨⟨i + 1, rfl, hlt, by rw [unhide HBS2]; exact unhide HO8, unhide HB8⟩, by simp [intOf]; omega⟩
    · obtain rfl : i = m := by omega
      have e3 : ¬ (i : Int) < (i : Int) := by omega
      have HO := hide hO
      have HB := hide hb
      clear hO hb
      go_wp2
      go_ret
      exact ⟨_, rfl, unhide HO, unhide HB⟩
end Go.Proofs.YtcmddkekidgkoaaDoor
