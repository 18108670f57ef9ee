/- The document's McNaughton; ShopMcNaughton. -/
import Derived.Test.YtepgdlgifempeaaDoorZ10
namespace Go.Proofs.YtepgdlgifempeaaDoor
open Go.RowKit Go.Sort Stb Shp Hp

theorem mc_step {E A m C d : Int} (hm : 1 ≤ m) (h : E * m < A) (hC : A ≤ C * m) (hd : d = (A - E * m) / m) : E + 1 ≤ C ∧ E + d ≤ C ∧ 0 ≤ d ∧ d ≤ A - E * m := by
  have h0 : 0 ≤ d := by rw [hd]; exact Int.ediv_nonneg (by omega) (by omega)
  have h1 : d * m ≤ A - E * m := by rw [hd]; exact Int.ediv_mul_le _ (by omega)
  refine ⟨?_, ?_, h0, by rw [hd]; exact Int.ediv_le_self _ (by omega)⟩
  · have : E < C := Int.lt_of_mul_lt_mul_right (Int.lt_of_lt_of_le h hC) (by omega)
    omega
  · have e : (E + d) * m ≤ C * m := by rw [Int.add_mul]; omega
    exact Int.le_of_mul_le_mul_right e (by omega)
theorem mc_end {n : Nat} {l : Nat → Int} {m E : Int} (h : GoodL n l m) (h1 : lmax l n ≤ E) (h2 : E ≤ mcE n l m) (h3 : ¬ E * m < Lin.ssum l n) : E = mcE n l m := by
  rcases mcE_tight h with c | c
  · omega
  · have h4 : mcE n l m - 1 < E := Int.lt_of_mul_lt_mul_right (Int.lt_of_lt_of_le c (Int.not_lt.1 h3)) (by have := h.m1; omega)
    omega
theorem irow_nat {w : World} {a : Option Addr} {n c : Nat} {l : Nat → Int} {m : Int} (h : IRow w a n c l) (hG : GoodL n l m) : IRow w a n c (fun i => (lnat l i : Int)) := by
  refine ⟨h.1, h.2.1, fun hp => ?_⟩
  obtain ⟨b, o, h1, h2, h3⟩ := h.2.2 hp
  refine ⟨b, o, h1, h2, fun j hj => ?_⟩
  rw [h3 j hj]
  have := hG.l j hj
  show some (Value.int .i64 (l j)) = some (Value.int .i64 (((l j).toNat : Nat) : Int))
  rw [show (((l j).toNat : Nat) : Int) = l j by omega]

theorem mul_i64 {x y : Int} (h1 : 0 ≤ x) (h2 : x ≤ 100000000000) (h3 : 0 ≤ y) (h4 : y ≤ 100000) : IntKind.i64.wrap (x * y) = x * y := by
  have a := Int.mul_le_mul_of_nonneg_right h2 h3
  have b := Int.mul_nonneg h1 h3
  rw [IntKind.wrap_i64]
  omega

set_option maxHeartbeats 8000000 in
set_option maxRecDepth 100000 in
set_option linter.unusedSimpArgs false in
theorem rmc_any (a : Option Addr) (n c : Nat) (l : Nat → Int) (m : Int) (w : World) (ha : IRow w a n c l) (hG : GoodL n l m) :
    Calls Tryd.prog 19 #[.slice a n c, .int .i64 m] w fun e w' => ∃ v, e = .returned (.tuple #[.int .i64 (mcE n l m), v]) ∧ OwnV w' w.heap.size v (mcp (mcE' n l m) (lnat l) n) ∧ Below w.heap.size w w' := by
  obtain ⟨ti, hi, hz0, hz1, hz2⟩ := info_parts Tryd.infoV
  have HI := hide hi
  have HZ := hide hz0
  have HA := hide ha
  have HG := hide hG
  have hn60 := hG.few
  have hm1 := hG.m1
  have hm20 := hG.m20
  have i1 := ha.1
  have i2 := ha.2.1
  have hcb := mcE_bd hG
  obtain ⟨E, hE'⟩ : ∃ e : Nat, mcE' n l m = e := ⟨_, rfl⟩
  have hEi : mcE n l m = (E : Int) := by rw [← hE']; unfold mcE'; omega
  have hEb : E ≤ 60000000019 := by omega
  rw [hE', hEi]
  have HEQ := hide hEi
  clear hi hz0 ha hG hcb hE' hEi
  go_enter Tryd.func19, Tryd.ntmps19
  go_wp2_with fail
  go_loopw [6, 7, 19] (fun va vx vi wr => ∃ k : Nat, vi = .int .i64 (k : Int) ∧ vx = .int .i64 (lmax l k) ∧ va = .int .i64 (Lin.ssum l k) ∧ k ≤ n ∧ wr = w) (fun _ _ vi _ => n - (intOf vi).toNat)
  case atStart => exact ⟨0, rfl, rfl, rfl, Nat.zero_le _, rfl⟩
  case round =>
    obtain ⟨k, rfl, rfl, rfl, hk, hwr⟩ := hrel
    have hwr := hwr.symm
    subst hwr
    by_cases hlt : k < n
    · obtain ⟨b, o, rfl, hbl, hc⟩ := (unhide HA).2.2 (by omega)
      have c0 := hc k hlt
      have hbd := lmax_bd (unhide HG) k (by omega)
      have hx0 := (unhide HG).l k hlt
      have F1 : Hid (lmax l (k + 1) = max (lmax l k) (l k)) := rfl
      have F2 : Hid (Lin.ssum l (k + 1) = Lin.ssum l k + l k) := rfl
      obtain ⟨x, hx⟩ : ∃ x, l k = x := ⟨_, rfl⟩
      obtain ⟨M, hM⟩ : ∃ x, lmax l k = x := ⟨_, rfl⟩
      obtain ⟨A, hA⟩ : ∃ x, Lin.ssum l k = x := ⟨_, rfl⟩
      rw [hx] at c0 hx0 F1 F2
      rw [hM] at F1 hbd
      rw [hA] at F2 hbd
      rw [hM, hA]
      obtain ⟨mx, hmx⟩ : ∃ mx, (if M < x then x else M) = mx := ⟨_, rfl⟩
      have e7 : max M x = mx := by rw [← hmx]; split <;> omega
      rw [e7] at F1
      obtain ⟨s, hs⟩ : ∃ s, A + x = s := ⟨_, rfl⟩
      have e8 : IntKind.i64.wrap (A + x) = s := by rw [IntKind.wrap_i64]; omega
      rw [hs] at F2
      have e1 : (0 : Int) ≤ (k : Int) := by omega
      have e2 : (k : Int) < (n : Int) := by omega
      have e6 : IntKind.i64.wrap ((k : Int) + 1) = (k : Int) + 1 := by rw [IntKind.wrap_i64]; omega
      clear hc hbd hx hM hA e7 hs hx0
      go_wp2
      exact ⟨⟨k + 1, by go_num, by rw [unhide F1], by rw [unhide F2], hlt, by trivial⟩, by simp [intOf]; omega⟩
    · obtain ⟨n', rfl⟩ : ∃ n', n' = k := ⟨_, rfl⟩
      obtain rfl : n = n' := by omega
      have e1 : ¬ (n : Int) < (n : Int) := by omega
      go_wp2_with fail
      (try simp only [Exit.inBlock, Exit.then])
      (try go_wp2_with fail)
      go_loopw [7] (fun ve wr => ∃ u : Int, ve = .int .i64 u ∧ lmax l n ≤ u ∧ u ≤ (E : Int) ∧ wr = w) (fun ve _ => ((E : Int) - intOf ve).toNat)
      case atStart => exact ⟨_, rfl, Int.le_refl _, by rw [← unhide HEQ]; exact mcE_long, rfl⟩
      case round =>
        obtain ⟨u, rfl, hE1, hE2, hwr⟩ := hrel
        have hwr := hwr.symm
        subst hwr
        have hbd := lmax_bd (unhide HG) n (Nat.le_refl _)
        have hA := mcE_all (unhide HG)
        rw [unhide HEQ] at hA
        have g0 := mul_i64 (x := u) (y := m) (by omega) (by omega) (by omega) (by omega)
        by_cases hlt : u * m < Lin.ssum l n
        · obtain ⟨A, hAA⟩ : ∃ A, Lin.ssum l n = A := ⟨_, rfl⟩
          rw [hAA] at hlt hbd hA ⊢
          have hst := mc_step hm1 hlt hA rfl
          have hEm : 0 ≤ u * m := Int.mul_nonneg (by omega) (by omega)
          obtain ⟨p, hp⟩ : ∃ p, u * m = p := ⟨_, rfl⟩
          have g1 : IntKind.i64.wrap (u * m) = p := g0.trans hp
          clear g0
          rw [hp] at hlt hst hEm
          obtain ⟨y, hy⟩ : ∃ y, A - p = y := ⟨_, rfl⟩
          have g2 : IntKind.i64.wrap (A - p) = y := by rw [IntKind.wrap_i64]; omega
          rw [hy] at hst
          obtain ⟨d, hd⟩ : ∃ d, y / m = d := ⟨_, rfl⟩
          rw [hd] at hst
          have g3 : y.tdiv m = d := by rw [← hd]; exact Int.tdiv_eq_ediv_of_nonneg (by omega)
          have g4 : (m == 0) = false := by rw [beq_eq_false_iff_ne]; omega
          have g5 : m ≠ 0 := by omega
          have g6 : IntKind.i64.wrap d = d := by rw [IntKind.wrap_i64]; omega
          obtain ⟨mx, hmx⟩ : ∃ mx, (if 1 < d then d else 1) = mx := ⟨_, rfl⟩
          have hmx1 : u + mx ≤ (E : Int) ∧ 1 ≤ mx := by rw [← hmx]; split <;> omega
          have g7 : IntKind.i64.wrap (u + mx) = u + mx := by rw [IntKind.wrap_i64]; omega
          have HF : Hid (lmax l n ≤ u + mx ∧ u + mx ≤ (E : Int) ∧ ((E : Int) - (u + mx)).toNat < ((E : Int) - u).toNat) := by show _ ∧ _; omega
          clear hst hA hbd hy hd hp hmx1 hEm
          go_wp2
          exact ⟨⟨_, rfl, (unhide HF).1, (unhide HF).2.1, by trivial⟩, by simp only [intOf]; exact (unhide HF).2.2⟩
        · have hEE := mc_end (unhide HG) hE1 (by rw [unhide HEQ]; exact hE2) hlt
          rw [unhide HEQ] at hEE
          obtain ⟨A, hAA⟩ : ∃ A, Lin.ssum l n = A := ⟨_, rfl⟩
          rw [hAA] at hlt ⊢
          subst hEE
          obtain ⟨p, hp⟩ : ∃ p, (E : Int) * m = p := ⟨_, rfl⟩
          have g1 : IntKind.i64.wrap ((E : Int) * m) = p := g0.trans hp
          clear g0
          rw [hp] at hlt
          have HLE : Hid (∀ i, i < n → lnat l i ≤ E) := fun i hi => by
            have h1 := lmax_ge l n i hi
            unfold lnat
            omega
          have HPR : Hid (∀ j, j ≤ n → pre (lnat l) j ≤ 60000000000) := fun j hj => by
            have h1 := pre_ssum (unhide HG) j hj
            have h2 := lmax_bd (unhide HG) j hj
            omega
          have HAN := hide (irow_nat (unhide HA) (unhide HG))
          clear hbd hA hE1 hE2 hAA hp HA HEQ
          go_wp2_with fail
          (try simp only [Exit.inBlock, Exit.then])
          (try go_wp2_with fail)
          go_loopw [10, 11, 47] (fun vp va vi wr => ∃ k : Nat, vi = .int .i64 (k : Int) ∧ va = .int .i64 ((pre (lnat l) k : Nat) : Int) ∧ k ≤ n ∧ OwnV wr w.heap.size vp (mcp E (lnat l) k) ∧ Below w.heap.size w wr) (fun _ _ vi _ => n - (intOf vi).toNat)
          case atStart => exact ⟨0, rfl, rfl, Nat.zero_le _, OwnV.start _ _, Below.refl _ _⟩
          case round =>
            obtain ⟨k, rfl, rfl, hk, hO0, hb0⟩ := hrel
            by_cases hlt : k < n
            · obtain ⟨b, o, rfl, hbl, hc⟩ := ((unhide HAN).below hb0).2.2 (by omega)
              have c0 := hc k hlt
              simp only at c0
              have hx := unhide HLE k hlt
              have hQb := unhide HPR (k + 1) (by omega)
              have HL2 : Hid ((mcp E (lnat l) k).length + 2 ≤ 2 * (k + 1)) := by have := mcp_len E (lnat l) k; show _ ≤ _; omega
              have HM2 : Hid (mcp E (lnat l) k ++ seg E k 2 (pre (lnat l) k) (pre (lnat l) (k + 1)) = mcp E (lnat l) (k + 1)) := rfl
              have HS2 : Hid (Suf E 2 (pre (lnat l) k) (pre (lnat l) (k + 1))) := suf_two E hx
              have hQQ : pre (lnat l) (k + 1) = pre (lnat l) k + lnat l k := rfl
              obtain ⟨Q, hQ⟩ : ∃ Q, pre (lnat l) (k + 1) = Q := ⟨_, rfl⟩
              obtain ⟨P0, hP0⟩ : ∃ Q, pre (lnat l) k = Q := ⟨_, rfl⟩
              obtain ⟨x, hx2⟩ : ∃ x, lnat l k = x := ⟨_, rfl⟩
              rw [hQ] at HM2 HS2 hQQ hQb
              rw [hP0] at HM2 HS2 hQQ ⊢
              rw [hx2] at hQQ c0
              have e1 : (0 : Int) ≤ (k : Int) := by omega
              have e2 : (k : Int) < (n : Int) := by omega
              have e3 : IntKind.i64.wrap ((k : Int) + 1) = (k : Int) + 1 := by rw [IntKind.wrap_i64]; omega
              have e4 : IntKind.i64.wrap ((P0 : Int) + (x : Int)) = (Q : Int) := by rw [IntKind.wrap_i64]; omega
              have HO0 := hide hO0
              have HB0 := hide hb0
              clear hc hO0 hb0 hx hQQ hP0 hx2
              go_wp2_with fail
              go_loopw [10, 11] (fun vp va wr => ∃ (r P : Nat) (ps : List Prt), va = .int .i64 (P : Int) ∧ Suf E r P Q ∧ ps ++ seg E k r P Q = mcp E (lnat l) (k + 1) ∧ ps.length + r ≤ 2 * (k + 1) ∧ OwnV wr w.heap.size vp ps ∧ Below w.heap.size w wr) (fun _ va _ => Q - (intOf va).toNat)
              case atStart => exact ⟨2, P0, _, rfl, unhide HS2, unhide HM2, unhide HL2, unhide HO0, unhide HB0⟩
              case round =>
                obtain ⟨r, P, ps, rfl, hS, hps, hlb, hO, hb⟩ := hrel
                by_cases hPQ : P < Q
                · have hE : 0 < E := suf_pos hS hPQ
                  obtain ⟨r', hr', hS'⟩ := suf_step hE hS hPQ
                  rw [hr', seg_step hPQ] at hps
                  have hdb := div_bd (P := P) hE
                  obtain ⟨q, hq⟩ : ∃ q, P / E = q := ⟨_, rfl⟩
                  have e10 : Int.tdiv (P : Int) (E : Int) = (q : Int) := by rw [← hq]; rfl
                  rw [hq] at hdb hps hS'
                  obtain ⟨p, hp⟩ : ∃ p, q * E = p := ⟨_, rfl⟩
                  have hp1 : (q + 1) * E = p + E := by rw [Nat.succ_mul, hp]
                  rw [hp1] at hdb hps hS'
                  rw [hp] at hdb hps
                  have hqP : q ≤ P := by rw [← hq]; exact Nat.div_le_self _ _
                  obtain ⟨st, hst⟩ : ∃ st, min Q (p + E) = st := ⟨_, rfl⟩
                  rw [hst] at hps hS'
                  obtain ⟨now, hnow⟩ : ∃ x, P - p = x := ⟨_, rfl⟩
                  obtain ⟨to, hto⟩ : ∃ x, st - p = x := ⟨_, rfl⟩
                  rw [hnow, hto] at hps
                  have HPS : Hid ((ps ++ [⟨q, k, (now : Int), (to : Int)⟩]) ++ seg E k r' st Q = mcp E (lnat l) (k + 1)) := by show _ = _; rw [← hps]; simp
                  have HS' := hide hS'
                  have HQP : Hid (Q - st < Q - P) := by show _ < _; omega
                  have HLN : Hid ((ps ++ [(⟨q, k, (now : Int), (to : Int)⟩ : Prt)]).length + r' ≤ 2 * (k + 1)) := by show _ ≤ _; rw [List.length_append]; simp only [List.length_cons, List.length_nil]; omega
                  have e11 : ((E : Int) == 0) = false := by rw [beq_eq_false_iff_ne]; omega
                  have e12 : (E : Int) ≠ 0 := by omega
                  have e13 : IntKind.i64.wrap (q : Int) = (q : Int) := by rw [IntKind.wrap_i64]; omega
                  obtain ⟨q1, hq1⟩ : ∃ x, (q : Int) + 1 = x := ⟨_, rfl⟩
                  have e14 : IntKind.i64.wrap ((q : Int) + 1) = q1 := by rw [IntKind.wrap_i64]; omega
                  have hpi : (q : Int) * (E : Int) = (p : Int) := by rw [← hp]; exact (Int.natCast_mul q E).symm
                  obtain ⟨s, hs⟩ : ∃ x, (p : Int) + (E : Int) = x := ⟨_, rfl⟩
                  have e15 : IntKind.i64.wrap (q1 * (E : Int)) = s := by rw [← hq1, Int.add_mul, Int.one_mul, hpi, hs, IntKind.wrap_i64]; omega
                  have e16 : (if s < (Q : Int) then s else (Q : Int)) = (st : Int) := by split <;> omega
                  have e17 : IntKind.i64.wrap ((q : Int) * (E : Int)) = (p : Int) := by rw [hpi, IntKind.wrap_i64]; omega
                  have e18 : IntKind.i64.wrap ((P : Int) - (p : Int)) = (now : Int) := by rw [IntKind.wrap_i64]; omega
                  have e19 : IntKind.i64.wrap ((st : Int) - (p : Int)) = (to : Int) := by rw [IntKind.wrap_i64]; omega
                  have O4 := hide (OwnV.keep hO (alloc_below wr (.cells #[.int .i64 (q : Int), .int .i64 (k : Int), .int .i64 (now : Int), .int .i64 (to : Int)] 71)))
                  have Q63 : Hid (ps.length + 1 ≤ maxLen) := by show _ ≤ _; unfold maxLen; omega
                  have Q8 : Hid ((ps.length + 1) * 32 ≤ 140737488355328) := by show _ ≤ _; omega
                  have QB := hide (below_step hb (alloc_below wr (.cells #[.int .i64 (q : Int), .int .i64 (k : Int), .int .i64 (now : Int), .int .i64 (to : Int)] 71))).size
                  have HOQ := hide hO
                  have HBR := hide hb
                  have f0 : (P : Int) < (Q : Int) := by omega
                  clear hps hS hS' hO hb hr' hdb hq hp hp1 hqP hst hnow hto hq1 hpi hs hlb hE
                  go_wp2_with (at_builtin; go_loud (refine wpList_append_lies _ rfl _ _ _ rfl w.heap.size 71 ti (.agg #[.int .i64 0, .int .i64 0, .int .i64 0, .int .i64 0]) 4 32 Tryd.underlying41 (unhide HI) (unhide HZ) hz1 hz2 rfl (by decide) _ ps.length (qcells ps) rfl (unhide O4) ⟨wr.heap.size, 0, none⟩ 1 1 (qval ⟨q, k, (now : Int), (to : Int)⟩) rfl rfl (news_part wr ⟨q, k, (now : Int), (to : Int)⟩ _) (qval_one _) (by decide) (unhide Q63) (unhide Q8) (unhide QB) (wr.heap.size + 1) (alloc_size _ _) ?_; intro g5 cap5 w5 own5 grow5 hat5 hlt5; have HO5 := hide (OwnV.push (t := ⟨q, k, (now : Int), (to : Int)⟩) own5); have HB5 := hide ((unhide HOQ).grow (unhide HBR) (Nat.le_refl _) (alloc_below wr (.cells #[.int .i64 (q : Int), .int .i64 (k : Int), .int .i64 (now : Int), .int .i64 (to : Int)] 71)) grow5); clear own5 grow5 hat5 hlt5))
                  exact ⟨⟨r', st, ps ++ [⟨q, k, (now : Int), (to : Int)⟩], rfl, unhide HS', unhide HPS, unhide HLN, unhide HO5, unhide HB5⟩, by have h1 := unhide HQP; simp only [intOf]; omega⟩
                · have hPQ' : P = Q := by have := hS.1; omega
                  subst hPQ'
                  rw [seg_done, List.append_nil] at hps
                  subst hps
                  have f0 : ¬ (P : Int) < (P : Int) := by omega
                  have HO := hide hO
                  have HB := hide hb
                  have HQ' := hide hQ
                  clear hO hb hS hlb hQ hPQ
                  go_wp2_with fail
                  (try simp only [Exit.inBlock, Exit.then])
                  (try go_wp2_with fail)
                  exact ⟨⟨k + 1, by go_num, by rw [unhide HQ'], hlt, unhide HO, unhide HB⟩, by simp [intOf]; omega⟩
            · obtain rfl : k = n := by omega
              have e1 : ¬ (k : Int) < (k : Int) := by omega
              have HO := hide hO0
              have HB := hide hb0
              clear hO0 hb0
              go_wp2
              (try simp only [Exit.inBlock, Exit.then])
              (try go_wp2)
              go_ret2
              exact ⟨_, rfl, unhide HO, unhide HB⟩
set_option maxHeartbeats 8000000 in
set_option maxRecDepth 100000 in
set_option linter.unusedSimpArgs false in
theorem shopMcNaughton_any (a : Option Addr) (n c : Nat) (l : Nat → Int) (m : Int) (w : World) (het : ErrTy w) (ha : IRow w a n c l) :
    Calls Tryd.prog 5 #[.slice a n c, .int .i64 m] w fun e w' => e = .returned (.bool true) ∧ Below w.heap.size w w' := by
  have b1 := ha.1
  have b2 := ha.2.1
  by_cases h1 : 100 < n
  · have e1 : (100 : Int) < (n : Int) := by omega
    clear ha
    go_enter Tryd.func5, Tryd.ntmps5
    go_wp2
    go_ret
    exact ⟨rfl, Below.refl _ _⟩
  have e1 : ¬ (100 : Int) < (n : Int) := by omega
  have HE := hide het
  have HA := hide ha
  have C1 := hide (rlengths_any a n c l m w ha)
  have C3 : Hid (∀ W, Below w.heap.size w W → Calls Tryd.prog 20 #[.slice a n c, .int .i64 m] W (McPost W n l m)) := fun W hW => mcNaughton_any a n c l m W (ha.below hW)
  clear ha het
  by_cases hz : lcode n l m = 0
  case neg =>
    obtain ⟨k, hk⟩ : ∃ k, lcode n l m = k := ⟨_, rfl⟩
    have hz : k ≠ 0 := by rw [← hk]; exact hz
    have q1 : (k == 0) = false := by simpa using hz
    have HK := hide hk
    have HT := hide hz
    rw [hk] at C1
    have C3' : Hid (Calls Tryd.prog 20 #[.slice a n c, .int .i64 m] w fun e w' => e = .returned (.tuple #[.int .i64 0, .slice none 0 0, .iface 26 (.int .i64 k)]) ∧ Below w.heap.size w w') := by
      refine (unhide C3 w (Below.refl _ _)).mono ?_
      rintro e w2 ⟨hb2, hp⟩
      refine ⟨?_, hb2⟩
      rcases hp with ⟨_, h⟩ | ⟨h, _⟩
      · rw [h, unhide HK]
      · exact absurd (h.symm.trans (unhide HK)) (fun e => unhide HT e.symm)
    clear hk hz C3
    go_enter Tryd.func5, Tryd.ntmps5
    go_wp2_with fail
    refine (unhide C1).mono ?_
    rintro e w1 ⟨rfl, rfl⟩
    clear C1
    go_wp2_with fail
    refine (unhide C3').mono ?_
    rintro e w2 ⟨rfl, hb2⟩
    have HB2 := hide hb2
    have C4 := hide (whole_bad 0 k (unhide HT) w2 ((unhide HE).below (unhide HB2)))
    clear hb2 C3'
    go_wp2_with fail
    refine (unhide C4).mono ?_
    rintro e w3 ⟨rfl, hb3⟩
    have HB3 := hide (below_step (unhide HB2) hb3)
    have C5 := hide (parts_none w3)
    clear hb3 C4
    go_wp2_with fail
    refine (unhide C5).mono ?_
    rintro e w4 ⟨rfl, hb4⟩
    have HB4 := hide (below_step (unhide HB3) hb4)
    clear hb4 C5
    go_wp2
    go_ret
    exact ⟨rfl, unhide HB4⟩
  · have gL := goodL_of hz
    rw [hz] at C1
    have HZ := hide hz
    have HG := hide gL
    have hn := gL.few
    have C2 := hide (rmc_any a n c l m w (unhide HA) gL)
    clear hz gL
    go_enter Tryd.func5, Tryd.ntmps5
    go_wp2_with fail
    refine (unhide C1).mono ?_
    rintro e w1 ⟨rfl, rfl⟩
    clear C1
    go_wp2_with fail
    refine (unhide C2).mono ?_
    rintro e w3 ⟨v, rfl, hV, hb3⟩
    have HB3 := hide hb3
    have C3' := hide (unhide C3 w3 hb3)
    have HV := hide hV
    clear C2 C3 hb3 hV
    go_wp2_with fail
    refine (unhide C3').mono ?_
    rintro e w4 ⟨hb4, hp⟩
    rcases hp with ⟨h, _⟩ | ⟨_, v', rfl, hQ⟩
    · exact absurd (unhide HZ) h
    have HB4 := hide (below_step (unhide HB3) hb4)
    have C4 := hide (whole_good (mcE n l m) w4)
    have C5 : Hid (∀ W, Below w4.heap.size w4 W → Calls Tryd.prog 21 #[v', v] W fun e w'' => e = .returned (.bool true) ∧ Below W.heap.size W w'') := fun W hW => parts_own (hQ.keep hW) (unhide HV) (below_step hb4 hW) (by have := mcp_len (mcE' n l m) (lnat l) n; omega)
    clear hb4 C3' hQ HV
    go_wp2_with fail
    refine (unhide C4).mono ?_
    rintro e w5 ⟨rfl, hb5⟩
    have HB5 := hide (below_step (unhide HB4) hb5)
    have C5' := hide (unhide C5 w5 hb5)
    clear hb5 C4 C5
    go_wp2_with fail
    refine (unhide C5').mono ?_
    rintro e w6 ⟨rfl, hb6⟩
    have HB6 := hide (below_step (unhide HB5) hb6)
    clear hb6 C5'
    go_wp2
    go_ret
    exact ⟨rfl, unhide HB6⟩
end Go.Proofs.YtepgdlgifempeaaDoor
