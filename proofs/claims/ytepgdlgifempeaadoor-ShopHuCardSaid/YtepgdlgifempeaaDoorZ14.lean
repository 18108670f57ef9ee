/- The document's Hu. -/
import Derived.Test.YtepgdlgifempeaaDoorZ1
import Derived.Test.YtepgdlgifempeaaDoorY22
import Derived.Test.YtepgdlgifempeaaDoorM34
import Derived.BigQuiet
namespace Go.Proofs.YtepgdlgifempeaaDoor
open Go.RowKit Go.Sort Stb Hux

/-- What the document's Hu leaves, the queue being Q0. -/
def RHPost (w : World) (n : Nat) (nx : Nat → Int) (m : Int) (Q0 : List Nat) (e : Ending) (w' : World) : Prop :=
  Below w.heap.size w w' ∧ ((hcode n nx m ≠ 0 ∧ e = .returned (.tuple #[.slice none 0 0, .int .i64 (hcode n nx m)])) ∨ (hcode n nx m = 0 ∧ ∃ G, w.heap.size ≤ G ∧ e = .returned (.tuple #[.slice (some ⟨G, 0, none⟩) n n, .int .i64 0]) ∧ OwnI w' G n (nI (hur nx m.toNat n 0 Q0 (fun _ => 0)))))
theorem ownN_push {w5 : World} {B g5 cap5 x : Nat} {xs : List Nat} (own5 : w5.ownsRow B 3 1 (.slice (some ⟨g5, 0, none⟩) ((xs.map (fun x => ((x : Nat) : Int))).length + 1) cap5) ((xs.map (fun x => ((x : Nat) : Int))).length + 1) ((xs.map (fun x => ((x : Nat) : Int))).map (Value.int .i64 ·) ++ [.int .i64 ((x : Nat) : Int)])) : OwnN w5 B (.slice (some ⟨g5, 0, none⟩) (xs.length + 1) cap5) (xs ++ [x]) := by
  unfold OwnN
  rw [List.map_append]
  have := OwnL.push own5
  rw [List.length_map] at this
  exact this
/-- A block that is not the row's stays, and all that was. -/
theorem grow_keep {WL wr V w5 : World} {G n B : Nat} {lf : Nat → Int} {v : Value} {xs : List Nat} (hO : OwnI wr G n lf) (hv : OwnN wr B v xs) (hB : G < B) (hW : WL.heap.size ≤ G) (hb : Below WL.heap.size WL wr) (hV : Below wr.heap.size wr V) (grow : V.grownBy w5 v.ownBlock) : OwnI w5 G n lf ∧ Below WL.heap.size WL w5 := by
  refine ⟨(hO.keep hV).other (grow.block G (Nat.lt_of_lt_of_le hO.lt hV.size) (fun e => ?_)), Below.grown (below_step hb hV) grow (Nat.le_trans hb.size hV.size) (fun k hk => ?_)⟩
  · have := OwnL.row hv G e.symm; omega
  · have := OwnL.row hv k hk; omega
theorem grow_own {w wr V w5 : World} {v : Value} {xs : List Nat} (hv : OwnN wr w.heap.size v xs) (hb : Below w.heap.size w wr) (hV : Below wr.heap.size wr V) (grow : V.grownBy w5 v.ownBlock) : Below w.heap.size w w5 :=
  Below.grown (below_step hb hV) grow (Nat.le_trans hb.size hV.size) (fun k hk => OwnL.row hv k hk)
theorem bst_rng (D : Nat → Int) (lev : Nat → Nat) {l : List Nat} (h : l.Pairwise (fun a b => a < b)) : bst D lev l = -1 ∨ ∃ x : Nat, bst D lev l = (x : Int) ∧ x ∈ l := by
  rcases bst_is D lev _ l rfl h with c | ⟨x, h1, h2, _⟩
  · exact Or.inl c.1
  · exact Or.inr ⟨x, h1, h2⟩
/-- How far it is. -/
structure RHS (WL wr : World) (GD n m : Nat) (nx : Nat → Int) (F : Nat → Nat) (t : Nat) (Q : List Nat) (T : Nat → Nat) : Prop where
  ti : OwnI wr GD n (dn Q T)
  rd : Rd n m nx (lv nx n) t Q T
  so : Q.Pairwise (Lv (lv nx n))
  hr : hur nx m (n - t) t Q T = F
  len : Q.length + t ≤ n
  bl : Below WL.heap.size WL wr
theorem RHS.next {WL wr wv : World} {GD n m : Nat} {nx : Nat → Int} {F : Nat → Nat} {t : Nat} {Q : List Nat} {T : Nat → Nat} (h : RHS WL wr GD n m nx F t Q T) (hq : Q ≠ []) (hm : 0 < m) (hl : ∀ i, i < n → 0 ≤ nx i → lv nx n i = lv nx n (nx i).toNat + 1) (hO : OwnI wv GD n (dj Q T (Q.filter (rdy nx Q)) t m)) (hb : Below WL.heap.size WL wv) : RHS WL wv GD n m nx F (t + 1) (pt (rdy nx Q) m Q).2 (now' T (pt (rdy nx Q) m Q).1 t) ∧ t < n := by
  have hp := pt_is (rdy nx Q) m Q
  have hlen := h.rd.some hl hm hq hp
  have hl0 : 0 < Q.length := List.length_pos_iff.2 hq
  have := h.len
  refine ⟨⟨hO.congr (fun i _ => dj_end h.rd.nd hp i), h.rd.next hp, h.so.sublist hp.sub, ?_, by omega, hb⟩, by omega⟩
  rw [← h.hr, show n - t = (n - (t + 1)) + 1 by omega, hur_step nx m _ _ T hq]

set_option maxHeartbeats 8000000 in
set_option maxRecDepth 100000 in
set_option linter.unusedSimpArgs false in
theorem rhu_any (a : Option Addr) (n c : Nat) (nx : Nat → Int) (m : Int) (w : World) (ha : IRow w a n c nx) (Q0 : List Nat) (hp0 : Q0.Perm (List.range n)) (hs0 : Q0.Pairwise (Lv (lv nx n))) :
    Calls Tryd.prog 26 #[.slice a n c, .int .i64 m] w (RHPost w n nx m Q0) := by
  have hn63 := ha.1
  have hc63 := ha.2.1
  have HA := hide ha
  have HP0 := hide hp0
  have HS0 := hide hs0
  clear ha hp0 hs0
  by_cases hmn : m < 1 ∨ 20 < m ∨ 60 < n
  · have HV4 : Hid (hcode n nx m = 4) := if_pos hmn
    by_cases g1 : m < 1
    · clear hmn
      go_enter Tryd.func26, Tryd.ntmps26
      go_wp2
      go_ret2
      exact ⟨Below.refl _ _, Or.inl ⟨by rw [unhide HV4]; decide, by rw [unhide HV4]; rfl⟩⟩
    · by_cases g2 : 20 < m
      · clear hmn
        go_enter Tryd.func26, Tryd.ntmps26
        go_wp2
        go_ret2
        exact ⟨Below.refl _ _, Or.inl ⟨by rw [unhide HV4]; decide, by rw [unhide HV4]; rfl⟩⟩
      · have g3 : (60 : Int) < (n : Int) := by omega
        clear hmn
        go_enter Tryd.func26, Tryd.ntmps26
        go_wp2
        go_ret2
        exact ⟨Below.refl _ _, Or.inl ⟨by rw [unhide HV4]; decide, by rw [unhide HV4]; rfl⟩⟩
  have HE : Hid (hcode n nx m = ncode n nx) := if_neg hmn
  obtain ⟨M, rfl⟩ : ∃ M : Nat, m = (M : Int) := ⟨m.toNat, by omega⟩
  have m1 : 0 < M := by omega
  have m20 : M ≤ 20 := by omega
  have hn60 : n ≤ 60 := by omega
  have g1 : ¬ (M : Int) < 1 := by omega
  have g2 : ¬ (20 : Int) < (M : Int) := by omega
  have g3 : ¬ (60 : Int) < (n : Int) := by omega
  obtain ⟨F, hF⟩ : ∃ F, hur nx M n 0 Q0 (fun _ => 0) = F := ⟨_, rfl⟩
  have HF := hide hF
  obtain ⟨ti, hi, hz0, hz1, hz2⟩ := info_parts Tryd.infoI
  have HI := hide hi
  have HZ := hide hz0
  clear hmn hF hi hz0
  go_enter Tryd.func26, Tryd.ntmps26
  go_wp2_with fail
  clear g1 g2 g3
  go_loopw [36] (fun vi wr => ∃ k : Nat, vi = .int .i64 (k : Int) ∧ k ≤ n ∧ (∀ i, i < k → -1 ≤ nx i ∧ nx i < (n : Int)) ∧ wr = w) (fun vi _ => n - (intOf vi).toNat)
  case atStart => exact ⟨0, rfl, Nat.zero_le _, fun i hi => absurd hi (Nat.not_lt_zero _), rfl⟩
  case round =>
    obtain ⟨k, rfl, hk, hg, hwr⟩ := hrel
    have hwr := hwr.symm
    subst hwr
    by_cases hlt : k < n
    · obtain ⟨b, o, rfl, hbl, hc⟩ := (unhide HA).2.2 (by omega)
      have c0 := hc k hlt
      obtain ⟨x, hx⟩ : ∃ x, nx k = x := ⟨_, rfl⟩
      rw [hx] at c0
      have e1 : (0 : Int) ≤ (k : Int) := by omega
      have e2 : (k : Int) < (n : Int) := by omega
      have e3 : IntKind.i64.wrap ((k : Int) + 1) = (k : Int) + 1 := by rw [IntKind.wrap_i64]; omega
      by_cases g1 : x < -1
      · have HVV : Hid (hcode n nx (M : Int) = 2) := (unhide HE).trans (ncode_two hlt (Or.inl (by omega)))
        clear hc hg hx
        go_wp2
        go_ret2
        exact ⟨Below.refl _ _, Or.inl ⟨by rw [unhide HVV]; decide, by rw [unhide HVV]; rfl⟩⟩
      · by_cases g2 : (n : Int) ≤ x
        · have HVV : Hid (hcode n nx (M : Int) = 2) := (unhide HE).trans (ncode_two hlt (Or.inr (by omega)))
          clear hc hg hx
          go_wp2
          go_ret2
          exact ⟨Below.refl _ _, Or.inl ⟨by rw [unhide HVV]; decide, by rw [unhide HVV]; rfl⟩⟩
        · have HG : Hid (∀ i, i < k + 1 → -1 ≤ nx i ∧ nx i < (n : Int)) := fun i hi => by
            by_cases ci : i = k
            · rw [ci, hx]; omega
            · exact hg i (by omega)
          clear hc hg hx
          go_wp2
          exact ⟨⟨k + 1, by go_num, hlt, unhide HG, by trivial⟩, by simp [intOf]; omega⟩
    · obtain ⟨n', rfl⟩ : ∃ n', n' = k := ⟨_, rfl⟩
      obtain rfl : n = n' := by omega
      have e1 : ¬ (n : Int) < (n : Int) := by omega
      have HG := hide hg
      clear hg
      go_wp2_with fail
      (try simp only [Exit.inBlock, Exit.then])
      (try go_wp2_with fail)
      go_loopw [8, 51] (fun vl vi wv => ∃ i : Nat, vi = .int .i64 (i : Int) ∧ i ≤ n ∧ (∀ j, j < i → lv nx n j ≤ n) ∧ OwnN wv w.heap.size vl ((List.range i).map (lv nx n)) ∧ Below w.heap.size w wv) (fun _ vi _ => n - (intOf vi).toNat)
      case atStart => exact ⟨0, rfl, Nat.zero_le _, fun j hj => absurd hj (Nat.not_lt_zero _), OwnL.start _ _, Below.refl _ _⟩
      case round =>
        obtain ⟨i, rfl, hi, hlv0, hO, hb⟩ := hrel
        by_cases hin : i < n
        · have e1 : (i : Int) < (n : Int) := by omega
          have e2 : IntKind.i64.wrap ((i : Int) + 1) = (i : Int) + 1 := by rw [IntKind.wrap_i64]; omega
          have HO := hide hO
          have HB := hide hb
          have HLV0 := hide hlv0
          clear hO hb hlv0
          go_wp2_with fail
          obtain ⟨WR, hWR⟩ : ∃ V, V = wr := ⟨_, rfl⟩
          go_loopw [10, 11] (fun vt vx wv => ∃ (t : Nat) (x : Int), vt = .int .i64 (t : Int) ∧ vx = .int .i64 x ∧ t ≤ n ∧ -1 ≤ x ∧ x < (n : Int) ∧ lv nx n i = t + lvl nx (n + 1 - t) x ∧ wv = WR) (fun vt _ _ => n + 1 - (intOf vt).toNat)
          case atStart => exact ⟨0, (i : Int), rfl, rfl, Nat.zero_le _, by omega, by omega, by show lv nx n i = 0 + lvl nx (n + 1) (i : Int); rw [Nat.zero_add]; rfl, hWR.symm⟩
          case round =>
            obtain ⟨t, x, rfl, rfl, ht, hx0, hx1, hle, hwv⟩ := hrel
            have hwv := hwv.symm
            subst hwv
            subst hWR
            by_cases hx : 0 ≤ x
            · obtain ⟨y, rfl⟩ : ∃ y : Nat, x = (y : Int) := ⟨x.toNat, by omega⟩
              have hy : y < n := by omega
              obtain ⟨b, o, rfl, hbn, hc⟩ := ((unhide HA).below (unhide HB)).2.2 (by omega)
              have c0 := hc y hy
              have hng := unhide HG y hy
              have e3 : IntKind.i64.wrap ((t : Int) + 1) = (t : Int) + 1 := by rw [IntKind.wrap_i64]; omega
              have e4 : (0 : Int) ≤ (y : Int) := by omega
              have e6 : (y : Int) < (n : Int) := by omega
              have hstep : lvl nx (n + 1 - t) (y : Int) = 1 + lvl nx (n - t) (nx y) := by
                rw [show n + 1 - t = (n - t) + 1 by omega, lvl_pos nx (by omega), Int.toNat_natCast]
              by_cases hbig : n < t + 1
              · have e7 : (n : Int) < (t : Int) + 1 := by omega
                have HVV : Hid (hcode n nx (M : Int) = 12) := by
                  show _ = _
                  rw [unhide HE]
                  exact ncode_round (unhide HG) hin (by rw [hle, hstep]; omega)
                clear hc hstep hle hng
                go_wp2
                go_ret2
                exact ⟨unhide HB, Or.inl ⟨by rw [unhide HVV]; decide, by rw [unhide HVV]; rfl⟩⟩
              · have e7 : ¬ (n : Int) < (t : Int) + 1 := by omega
                have HLE : Hid (lv nx n i = (t + 1) + lvl nx (n + 1 - (t + 1)) (nx y)) := by
                  show lv nx n i = _
                  rw [hle, hstep, show n + 1 - (t + 1) = n - t by omega]
                  omega
                have HNG := hide hng
                clear hc hstep hle hng
                go_wp2
                exact ⟨⟨t + 1, nx y, by go_num, rfl, by omega, (unhide HNG).1, (unhide HNG).2, unhide HLE, by trivial⟩, by simp [intOf]; omega⟩
            · have e3 : ¬ (0 : Int) ≤ x := hx
              have hlv : lv nx n i = t := by rw [hle, lvl_neg nx (by omega)]; rfl
              have HLN : Hid (∀ j, j < i + 1 → lv nx n j ≤ n) := fun j hj => by
                by_cases c : j = i
                · rw [c, hlv]; exact ht
                · exact unhide HLV0 j (by omega)
              have HSN : Hid ((List.range (i + 1)).map (lv nx n) = (List.range i).map (lv nx n) ++ [t]) := by show _ = _; rw [List.range_succ, List.map_append, ← hlv]; rfl
              have hml : ((List.range i).map (lv nx n)).length = i := by simp
              obtain ⟨ls, hls⟩ : ∃ x, (List.range i).map (lv nx n) = x := ⟨_, rfl⟩
              rw [hls] at HSN HO hml
              have O4 := hide (OwnL.keep (unhide HO) (alloc_below WR (.cells #[.int .i64 ((t : Nat) : Int)] 3)))
              have Q63 : Hid ((ls.map (fun x => ((x : Nat) : Int))).length + 1 ≤ maxLen) := by show _ ≤ _; rw [List.length_map]; unfold maxLen; omega
              have Q8 : Hid (((ls.map (fun x => ((x : Nat) : Int))).length + 1) * 8 ≤ 140737488355328) := by show _ ≤ _; rw [List.length_map]; omega
              have QB : Hid (w.heap.size ≤ (WR.alloc (.cells #[.int .i64 ((t : Nat) : Int)] 3)).heap.size) := by show _ ≤ _; rw [alloc_size]; have := (unhide HB).size; omega
              clear hls hml hle hlv hx0 hx1
              go_wp2_with (at_builtin; go_loud (refine wpList_append_lies _ rfl _ _ _ rfl (w.heap.size) 3 ti (.int .i64 0) 1 8 Tryd.underlying23 (unhide HI) (unhide HZ) hz1 hz2 rfl (by decide) _ (ls.map (fun x => ((x : Nat) : Int))).length ((ls.map (fun x => ((x : Nat) : Int))).map (Value.int .i64 ·)) rfl (unhide O4) ⟨WR.heap.size, 0, none⟩ 1 1 [.int .i64 ((t : Nat) : Int)] rfl rfl (news_one WR t _) (one_int _) (by decide) (unhide Q63) (unhide Q8) (unhide QB) (WR.heap.size + 1) (alloc_size _ _) ?_; intro g5 cap5 w5 own5 grow5 hat5 hlt5; have HO5 := hide (ownN_push own5); have HG5 := hide (grow_own (unhide HO) (unhide HB) (alloc_below WR (.cells #[.int .i64 ((t : Nat) : Int)] 3)) grow5); clear own5 grow5 hat5 hlt5))
              (try simp only [List.length_map])
              (try simp only [Exit.inBlock, Exit.then])
              exact ⟨⟨i + 1, by go_num, hin, unhide HLN, by rw [unhide HSN]; exact unhide HO5, unhide HG5⟩, by simp [intOf]; omega⟩
        · obtain ⟨n', rfl⟩ : ∃ n', n' = i := ⟨_, rfl⟩
          obtain rfl : n = n' := by omega
          have e1 : ¬ (n : Int) < (n : Int) := by omega
          have hz : ncode n nx = 0 := ncode_zero (unhide HG) hlv0
          have HZ0 : Hid (hcode n nx (M : Int) = 0) := (unhide HE).trans hz
          have HLS : Hid (∀ i, i < n → 0 ≤ nx i → lv nx n i = lv nx n (nx i).toNat + 1) := fun i hi h0 => (lv_step (hlv0 i hi)).2 h0
          obtain ⟨al, cl, hual, hir⟩ := OwnN.irow hO
          subst hual
          rw [List.length_map, List.length_range] at hir ⊢
          have HLV : Hid (IRow wr al n cl (lvI nx n)) := hir.congr (fun j hj => by unfold lvI; simp [hj])
          have HBWL := hide hb
          have v1 := hir.1
          have v2 := hir.2.1
          obtain ⟨WL, hWL⟩ : ∃ V, V = wr := ⟨_, rfl⟩
          subst hWL
          have HR0 : Hid (Rd n M nx (lv nx n) 0 Q0 (fun _ => 0)) := Rd.start ((unhide HP0).nodup_iff.2 List.nodup_range) (fun i => ⟨fun h => List.mem_range.1 ((unhide HP0).subset h), fun h => (unhide HP0).symm.subset (List.mem_range.2 h)⟩) ((unhide HS0).imp (fun h => by rcases h with h | h <;> omega)) (fun i hi => (unhide HG i hi).2)
          have mk := make_ints n (by omega) WL
          have O0 := hide (make_own WL n)
          have B0 := hide (alloc_below WL (.cells (lrow (fun _ => 0) n).toArray 3))
          obtain ⟨W0, hW0⟩ : ∃ W, WL.alloc (.cells (lrow (fun _ => 0) n).toArray 3) = W := ⟨_, rfl⟩
          rw [hW0] at mk O0 B0
          obtain ⟨GD, hGG⟩ : ∃ G, WL.heap.size = G := ⟨_, rfl⟩
          rw [hGG] at mk O0
          have HGD := hide hGG
          have HGE : Hid (w.heap.size ≤ GD) := by show _ ≤ _; rw [← hGG]; exact hb.size
          clear hW0 hGG hO hb hir hz hlv0
          go_wp2_with fail
          (try simp only [Exit.inBlock, Exit.then])
          (try go_wp2_with fail)
          clear mk
          go_loopw [77] (fun vi wv => ∃ i : Nat, vi = .int .i64 (i : Int) ∧ i ≤ n ∧ OwnI wv GD n (fun j => if j < i then -1 else 0) ∧ Below WL.heap.size WL wv) (fun vi _ => n - (intOf vi).toNat)
          case atStart => exact ⟨0, rfl, Nat.zero_le _, (unhide O0).congr (fun j _ => by simp), unhide B0⟩
          case round =>
            obtain ⟨i, rfl, hi, hO, hb⟩ := hrel
            by_cases hin : i < n
            · have e1 : (i : Int) < (n : Int) := by omega
              have e2 : (0 : Int) ≤ (i : Int) := by omega
              have e3 : IntKind.i64.wrap ((i : Int) + 1) = (i : Int) + 1 := by rw [IntKind.wrap_i64]; omega
              have y0 := hO.cell hin
              have l0 := hO.free i
              have FO : Hid (OwnI (wr.setCell ⟨GD, i, none⟩ (.int .i64 (-1))) GD n (fun j => if j < i + 1 then -1 else 0)) := (hO.set i (-1)).congr (fun j _ => by
                unfold updI
                by_cases c : j = i
                · rw [if_pos c, if_pos (by omega)]
                · rw [if_neg c]
                  show (if j < i then (-1 : Int) else 0) = _
                  by_cases c2 : j < i
                  · rw [if_pos c2, if_pos (by omega)]
                  · rw [if_neg c2, if_neg (by omega)])
              have FB := hide (hb.setCell (p := ⟨GD, i, none⟩) (Nat.le_of_eq (unhide HGD)) (.int .i64 (-1)))
              obtain ⟨u0, y0⟩ : ∃ u : Value, wr.cell? ⟨GD, i, none⟩ = some u := ⟨_, y0⟩
              clear hO hb
              go_wp2
              exact ⟨⟨i + 1, by go_num, hin, unhide FO, unhide FB⟩, by simp [intOf]; omega⟩
            · obtain ⟨n', rfl⟩ : ∃ n', n' = i := ⟨_, rfl⟩
              obtain rfl : n = n' := by omega
              have e1 : ¬ (n : Int) < (n : Int) := by omega
              have HST : Hid (RHS WL wr GD n M nx F 0 Q0 (fun _ => 0)) := by
                refine ⟨hO.congr (fun j hj => ?_), unhide HR0, unhide HS0, ?_, ?_, hb⟩
                · rw [if_pos hj]; unfold dn; rw [if_pos ((unhide HP0).symm.subset (List.mem_range.2 hj))]
                · rw [Nat.sub_zero]; exact unhide HF
                · have := (unhide HP0).length_eq; rw [List.length_range] at this; omega
              clear hO hb
              go_wp2_with fail
              (try simp only [Exit.inBlock, Exit.then])
              (try go_wp2_with fail)
              go_loopw [14] (fun vt wv => ∃ (t : Nat) (Q : List Nat) (T : Nat → Nat), vt = .int .i64 (t : Int) ∧ RHS WL wv GD n M nx F t Q T) (fun vt _ => n + 1 - (intOf vt).toNat)
              case atStart => exact ⟨0, Q0, fun _ => 0, rfl, unhide HST⟩
              case round =>
                obtain ⟨t, Q, T, rfl, hS⟩ := hrel
                have HS := hide hS
                have HQL : Hid (∀ i ∈ Q, i < n) := fun i h => hS.rd.lt i h
                have htl := hS.len
                clear hS
                go_wp2_with fail
                go_loopw [15, 16, 88] (fun vl vm vi wv => ∃ i : Nat, vi = .int .i64 (i : Int) ∧ vl = .bool (lft Q i) ∧ i ≤ n ∧ OwnN wv (GD + 1) vm (mayL nx Q i) ∧ OwnI wv GD n (dn Q T) ∧ Below WL.heap.size WL wv) (fun _ _ vi _ => n - (intOf vi).toNat)
                case atStart => exact ⟨0, rfl, rfl, Nat.zero_le _, OwnL.start _ _, (unhide HS).ti, (unhide HS).bl⟩
                case round =>
                  obtain ⟨i, rfl, rfl, hi, hOM, hTI, hbl⟩ := hrel
                  by_cases hin : i < n
                  · have c0 := hTI.cell hin
                    have e1 : (i : Int) < (n : Int) := by omega
                    have e2 : (0 : Int) ≤ (i : Int) := by omega
                    have e3 : IntKind.i64.wrap ((i : Int) + 1) = (i : Int) + 1 := by rw [IntKind.wrap_i64]; omega
                    have HOM := hide hOM
                    have HTI := hide hTI
                    have HBL := hide hbl
                    have HBA := hide (below_step (unhide HBWL) hbl)
                    by_cases hiq : i ∈ Q
                    · have e4 : ¬ (0 : Int) ≤ dn Q T i := by have := (dn_neg (Q := Q) (T := T) (i := i)).2 hiq; omega
                      have HLF : Hid (lft Q (i + 1) = true) := lft_in hiq
                      have HIQ := hide hiq
                      obtain ⟨d0, hd0⟩ : ∃ d, dn Q T i = d := ⟨_, rfl⟩
                      rw [hd0] at c0 e4
                      clear hOM hTI hbl hiq hd0
                      go_wp2_with fail
                      obtain ⟨WR, hWR⟩ : ∃ V, V = wr := ⟨_, rfl⟩
                      go_loopw [18, 98] (fun vo vk wv => ∃ k : Nat, vk = .int .i64 (k : Int) ∧ vo = .bool (okk nx Q i k) ∧ k ≤ n ∧ wv = WR) (fun _ vk _ => n - (intOf vk).toNat)
                      case atStart => exact ⟨0, rfl, rfl, Nat.zero_le _, hWR.symm⟩
                      case round =>
                        obtain ⟨k, rfl, rfl, hk, hwv⟩ := hrel
                        have hwv := hwv.symm
                        subst hwv
                        subst hWR
                        by_cases hkn : k < n
                        · obtain ⟨b, o, rfl, hbn, hcn⟩ := ((unhide HA).below (unhide HBA)).2.2 (by omega)
                          have c0 := hcn k hkn
                          have c1 := (unhide HTI).cell hkn
                          have HOK : Hid (okk nx Q i (k + 1) = (okk nx Q i k && (decide (nx k ≠ (i : Int)) || decide (k ∉ Q)))) := okk_succ nx Q i k
                          have hdk := dn_neg (Q := Q) (T := T) (i := k)
                          obtain ⟨x, hx⟩ : ∃ x, nx k = x := ⟨_, rfl⟩
                          obtain ⟨d, hd⟩ : ∃ d, dn Q T k = d := ⟨_, rfl⟩
                          obtain ⟨bb, hbb⟩ : ∃ q, okk nx Q i k = q := ⟨_, rfl⟩
                          rw [hx] at c0 HOK
                          rw [hd] at c1 hdk
                          rw [hbb] at HOK ⊢
                          have e1 : (k : Int) < (n : Int) := by omega
                          have e2 : (0 : Int) ≤ (k : Int) := by omega
                          have e5 : IntKind.i64.wrap ((k : Int) + 1) = (k : Int) + 1 := by rw [IntKind.wrap_i64]; omega
                          clear hx hd hbb hcn hbn
                          cases bb with
                          | false =>
                            have HR : Hid (okk nx Q i (k + 1) = false) := by show _ = _; rw [unhide HOK]; rfl
                            clear HOK hdk
                            go_wp2
                            exact ⟨⟨k + 1, by go_num, by rw [unhide HR], hkn, by trivial⟩, by simp [intOf]; omega⟩
                          | true =>
                            by_cases g1 : x = (i : Int)
                            · subst g1
                              have q1 : ((i : Int) == (i : Int)) = true := by simp
                              by_cases g2 : 0 ≤ d
                              · have hkq : k ∉ Q := fun h => by have := hdk.2 h; omega
                                have HR : Hid (okk nx Q i (k + 1) = true) := by show _ = _; rw [unhide HOK, decide_eq_true hkq]; simp
                                clear HOK hdk hkq
                                go_wp2
                                exact ⟨⟨k + 1, by go_num, by rw [unhide HR], hkn, by trivial⟩, by simp [intOf]; omega⟩
                              · have hkq : ¬ (k ∉ Q) := fun h => h (hdk.1 (by omega))
                                have HR : Hid (okk nx Q i (k + 1) = false) := by show _ = _; rw [unhide HOK, decide_eq_false hkq]; simp
                                clear HOK hdk hkq
                                go_wp2
                                exact ⟨⟨k + 1, by go_num, by rw [unhide HR], hkn, by trivial⟩, by simp [intOf]; omega⟩
                            · have q1 : (x == (i : Int)) = false := by simpa using g1
                              have HR : Hid (okk nx Q i (k + 1) = true) := by show _ = _; rw [unhide HOK, decide_eq_true (show x ≠ (i : Int) from g1)]; rfl
                              clear HOK hdk
                              go_wp2
                              exact ⟨⟨k + 1, by go_num, by rw [unhide HR], hkn, by trivial⟩, by simp [intOf]; omega⟩
                        · obtain ⟨n', rfl⟩ : ∃ n', n' = k := ⟨_, rfl⟩
                          obtain rfl : n = n' := by omega
                          have e1 : ¬ (n : Int) < (n : Int) := by omega
                          rw [okk_all (unhide HQL) i]
                          cases hrd : rdy nx Q i with
                          | false =>
                            have HM' : Hid (mayL nx Q (i + 1) = mayL nx Q i) := by show _ = _; rw [mayL_succ, if_neg (fun h => by rw [hrd] at h; cases h.2), List.append_nil]
                            have FO : Hid (OwnN WR (GD + 1) u16 (mayL nx Q (i + 1))) := by rw [unhide HM']; exact unhide HOM
                            clear hrd HM'
                            go_wp2_with fail
                            (try simp only [Exit.inBlock, Exit.then])
                            (try go_wp2_with fail)
                            exact ⟨⟨i + 1, by go_num, by rw [unhide HLF], hin, unhide FO, unhide HTI, unhide HBL⟩, by simp [intOf]; omega⟩
                          | true =>
                            have HM' : Hid (mayL nx Q (i + 1) = mayL nx Q i ++ [i]) := by show _ = _; rw [mayL_succ, if_pos ⟨unhide HIQ, hrd⟩]
                            have hml := mayL_len nx Q i
                            obtain ⟨may, hmay⟩ : ∃ x, mayL nx Q i = x := ⟨_, rfl⟩
                            rw [hmay] at HM' hml HOM
                            have O4 := hide (OwnL.keep (unhide HOM) (alloc_below WR (.cells #[.int .i64 ((i : Nat) : Int)] 3)))
                            have Q63 : Hid ((may.map (fun x => ((x : Nat) : Int))).length + 1 ≤ maxLen) := by show _ ≤ _; rw [List.length_map]; unfold maxLen; omega
                            have Q8 : Hid (((may.map (fun x => ((x : Nat) : Int))).length + 1) * 8 ≤ 140737488355328) := by show _ ≤ _; rw [List.length_map]; omega
                            have QB : Hid (GD + 1 ≤ (WR.alloc (.cells #[.int .i64 ((i : Nat) : Int)] 3)).heap.size) := by show _ ≤ _; rw [alloc_size]; have := (unhide HTI).lt; omega
                            clear hrd hmay hml
                            go_wp2_with (at_builtin; go_loud (refine wpList_append_lies _ rfl _ _ _ rfl (GD + 1) 3 ti (.int .i64 0) 1 8 Tryd.underlying23 (unhide HI) (unhide HZ) hz1 hz2 rfl (by decide) _ (may.map (fun x => ((x : Nat) : Int))).length ((may.map (fun x => ((x : Nat) : Int))).map (Value.int .i64 ·)) rfl (unhide O4) ⟨WR.heap.size, 0, none⟩ 1 1 [.int .i64 ((i : Nat) : Int)] rfl rfl (news_one WR i _) (one_int _) (by decide) (unhide Q63) (unhide Q8) (unhide QB) (WR.heap.size + 1) (alloc_size _ _) ?_; intro g5 cap5 w5 own5 grow5 hat5 hlt5; have HO5 := hide (ownN_push own5); have HG5 := hide (grow_keep (unhide HTI) (unhide HOM) (Nat.lt_succ_self GD) (Nat.le_of_eq (unhide HGD)) (unhide HBL) (alloc_below WR (.cells #[.int .i64 ((i : Nat) : Int)] 3)) grow5); clear own5 grow5 hat5 hlt5))
                            (try simp only [List.length_map])
                            (try simp only [Exit.inBlock, Exit.then])
                            exact ⟨⟨i + 1, by go_num, by rw [unhide HLF], hin, by rw [unhide HM']; exact unhide HO5, (unhide HG5).1, (unhide HG5).2⟩, by simp [intOf]; omega⟩
                    · have e4 : (0 : Int) ≤ dn Q T i := by have := mt (dn_neg (Q := Q) (T := T) (i := i)).1 hiq; omega
                      have HLF : Hid (lft Q (i + 1) = lft Q i) := lft_out hiq
                      have HM' : Hid (mayL nx Q (i + 1) = mayL nx Q i) := by show _ = _; rw [mayL_succ, if_neg (fun h => hiq h.1), List.append_nil]
                      have FO : Hid (OwnN wr (GD + 1) u16 (mayL nx Q (i + 1))) := by rw [unhide HM']; exact hOM
                      obtain ⟨d0, hd0⟩ : ∃ d, dn Q T i = d := ⟨_, rfl⟩
                      rw [hd0] at c0 e4
                      clear hOM hTI hbl hiq hd0 HM'
                      go_wp2_with fail
                      (try simp only [Exit.inBlock, Exit.then])
                      (try go_wp2_with fail)
                      exact ⟨⟨i + 1, by go_num, by rw [unhide HLF], hin, unhide FO, unhide HTI, unhide HBL⟩, by simp [intOf]; omega⟩
                  · obtain ⟨n', rfl⟩ : ∃ n', n' = i := ⟨_, rfl⟩
                    obtain rfl : n = n' := by omega
                    have e1 : ¬ (n : Int) < (n : Int) := by omega
                    cases hlf : lft Q n with
                    | false =>
                      have hq : Q = [] := by
                        apply Classical.byContradiction
                        intro h
                        rw [(lft_all (unhide HQL)).2 h] at hlf
                        cases hlf
                      subst hq
                      have hTF : T = F := by have := (unhide HS).hr; rw [hur_nil] at this; exact this
                      have FO : Hid (OwnI wr GD n (nI F)) := hTI.congr (fun j _ => by rw [hTF]; unfold dn nI; rw [if_neg List.not_mem_nil])
                      have FB := hide (below_step (unhide HBWL) hbl)
                      clear hOM hTI hbl hlf hTF
                      go_wp2_with fail
                      (try simp only [Exit.inBlock, Exit.then])
                      (try go_wp2_with fail)
                      go_ret2
                      refine ⟨unhide FB, Or.inr ⟨unhide HZ0, GD, unhide HGE, rfl, ?_⟩⟩
                      rw [Int.toNat_natCast, unhide HF]
                      exact unhide FO
                    | true =>
                      have HQN := hide ((lft_all (unhide HQL)).1 hlf)
                      obtain ⟨may, hmay⟩ : ∃ x, mayL nx Q n = x := ⟨_, rfl⟩
                      have HMS : Hid (may.Pairwise (fun a b => a < b)) := by show List.Pairwise _ _; rw [← hmay]; exact mayL_lt nx Q n
                      have HMM : Hid (∀ i, i ∈ may ↔ i ∈ Q.filter (rdy nx Q)) := fun i => by rw [← hmay]; exact mayL_mem (unhide HQL) i
                      have HVQ : Hid (∀ i ∈ Q.filter (rdy nx Q), i ∈ Q) := fun i h => (List.mem_filter.1 h).1
                      have HMN : Hid (∀ i ∈ may, i < n) := fun i h => unhide HQL i ((List.mem_filter.1 ((unhide HMM i).1 h)).1)
                      have HV : Hid ((Q.filter (rdy nx Q)).Pairwise (Lv (lv nx n))) := (unhide HS).so.sublist List.filter_sublist
                      rw [hmay] at hOM
                      obtain ⟨ma, mc, hum, _⟩ := OwnN.irow hOM
                      subst hum
                      obtain ⟨ml, hml⟩ : ∃ l, may.length = l := ⟨_, rfl⟩
                      rw [hml] at hOM ⊢
                      have HML := hide hml
                      have HOM := hide hOM
                      have HTI := hide hTI
                      have HBL := hide hbl
                      clear hOM hTI hbl hlf hmay hml
                      go_wp2_with fail
                      (try simp only [Exit.inBlock, Exit.then])
                      (try go_wp2_with fail)
                      go_loopw [128] (fun vj wv => ∃ j : Nat, vj = .int .i64 (j : Int) ∧ j ≤ M ∧ OwnI wv GD n (dj Q T (Q.filter (rdy nx Q)) t j) ∧ OwnN wv (GD + 1) (.slice ma ml mc) may ∧ Below WL.heap.size WL wv) (fun vj _ => M - (intOf vj).toNat)
                      case atStart => exact ⟨0, rfl, Nat.zero_le _, by rw [dj_zero]; exact unhide HTI, unhide HOM, unhide HBL⟩
                      case round =>
                        obtain ⟨j, rfl, hj, hOD, hOM, hbl⟩ := hrel
                        by_cases hjm : j < M
                        · obtain ⟨D, hD⟩ : ∃ D, dj Q T (Q.filter (rdy nx Q)) t j = D := ⟨_, rfl⟩
                          rw [hD] at hOD
                          have HDJ := hide hD
                          have HOD := hide hOD
                          have HOM := hide hOM
                          have HBW := hide hbl
                          have him : IRow wr ma ml mc (fun j => ((may[j]! : Nat) : Int)) := by
                            obtain ⟨ma', mc', hev, h⟩ := OwnN.irow hOM
                            injection hev with q1 q2 q3
                            rw [← q1, ← q2, ← q3] at h
                            exact h
                          have HIM := hide him
                          have k1 := him.1
                          have k2 := him.2.1
                          have e1 : (j : Int) < (M : Int) := by omega
                          have e3 : IntKind.i64.wrap ((j : Int) + 1) = (j : Int) + 1 := by rw [IntKind.wrap_i64]; omega
                          clear hOD hOM hbl him hD
                          go_wp2_with fail
                          obtain ⟨WR, hWR⟩ : ∃ V, V = wr := ⟨_, rfl⟩
                          go_loopw [20, 132] (fun vb vp wv => ∃ p : Nat, vp = .int .i64 (p : Int) ∧ vb = .int .i64 (bst D (lv nx n) (may.take p)) ∧ p ≤ ml ∧ Below WR.heap.size WR wv) (fun _ vp _ => ml - (intOf vp).toNat)
                          case atStart => exact ⟨0, rfl, rfl, Nat.zero_le _, by rw [hWR]; exact Below.refl _ _⟩
                          case round =>
                            obtain ⟨p, rfl, rfl, hp, hb9⟩ := hrel
                            subst hWR
                            by_cases hpl : p < ml
                            · obtain ⟨b, o, rfl, hbm, hcm⟩ := ((unhide HIM).below hb9).2.2 (by omega)
                              have hpm : p < may.length := by rw [unhide HML]; exact hpl
                              obtain ⟨i, hi⟩ : ∃ i, may[p]? = some i := ⟨may[p], by simp [hpm]⟩
                              have c0 := hcm p hpl
                              have hi2 : may[p]! = i := by simp [hi]
                              simp only [hi2] at c0
                              have him : i ∈ may := List.mem_of_getElem? hi
                              have hin : i < n := unhide HMN i him
                              have OD := (unhide HOD).keep hb9
                              have c1 := OD.cell hin
                              have hgl : GD < wr.heap.size := OD.lt
                              have HNB : Hid (bst D (lv nx n) (may.take (p + 1)) = sb D (lv nx n) (bst D (lv nx n) (may.take p)) i) := by show _ = _; rw [take_snoc may hi, bst_snoc]
                              unfold sb at HNB
                              obtain ⟨lb, lo, hal, hlb0, hcl⟩ := (unhide HLV).2.2 (by omega)
                              subst hal
                              have bL := below_step (unhide HBW) hb9
                              have hlb : lb < wr.heap.size := Nat.lt_of_lt_of_le hlb0 bL.size
                              obtain ⟨d, hd⟩ : ∃ d, D i = d := ⟨_, rfl⟩
                              rw [hd] at c1 HNB
                              have e1 : (0 : Int) ≤ (p : Int) := by omega
                              have e2 : (p : Int) < (ml : Int) := by omega
                              have e3 : (0 : Int) ≤ (i : Int) := by omega
                              have e4 : (i : Int) < (n : Int) := by omega
                              have e5 : IntKind.i64.wrap ((p : Int) + 1) = (p : Int) + 1 := by rw [IntKind.wrap_i64]; omega
                              have HB9 := hide hb9
                              have c2' := hcl i hin
                              rw [← bL.cell (p := ⟨lb, lo + i, none⟩) hlb0] at c2'
                              have hrg := bst_rng D (lv nx n) (l := may.take p) ((unhide HMS).sublist (List.take_sublist p may))
                              obtain ⟨s, hs⟩ : ∃ s, bst D (lv nx n) (may.take p) = s := ⟨_, rfl⟩
                              rw [hs] at HNB hrg ⊢
                              by_cases g1 : d < 0
                              · rcases hrg with hr | ⟨x, hr, hxm⟩
                                · subst hr
                                  rw [if_pos ⟨g1, Or.inl (by omega)⟩] at HNB
                                  clear c2' hs OD bL hlb0 hi hi2 him hd hb9
                                  have HCC : Hid (∀ W, Below wr.heap.size wr W → (fun w' : World => w'.cell? ⟨GD, i, none⟩ = some (.int .i64 d)) W) := fun W hW => by
                                    show _ = _
                                    rw [hW.cell (p := ⟨GD, i, none⟩) hgl]
                                    exact c1
                                  clear c1 hgl hcl hcm hlb
                                  (try clear c2 c3)
                                  go_wp2_with fail
                                  refine wp_region_hold (fun w' : World => w'.cell? ⟨GD, i, none⟩ = some (.int .i64 d)) (by kernel_rfl) ?_
                                  have bd0 : Below wr.heap.size wr wr.drew := (Below.refl _ _).drew
                                  have hC0 : (fun w' : World => w'.cell? ⟨GD, i, none⟩ = some (.int .i64 d)) wr.drew := unhide HCC _ bd0
                                  refine wpHold_take (i := 0) (v := ?_) rfl (by kernel_rfl) (by kernel_rfl) (by kernel_rfl) (fun _ _ _ h => h) (Or.inl ⟨by rfl, ?_⟩) hC0 ?_
                                  rotate_left
                                  · intro w hSw; clear hSw; go_simp; (try with_reducible rfl)
                                  (try simp only [List.getElem_toArray, List.getElem_cons_succ, List.getElem_cons_zero])
                                  (try simp only [Act.put, List.setIfInBounds_toArray, List.set_cons_zero, List.set_cons_succ])
                                  refine wpHold_take (i := 1) (v := ?_) rfl (by kernel_rfl) (by kernel_rfl) (by kernel_rfl) (fun _ _ _ h => h) (Or.inl ⟨by rfl, ?_⟩) hC0 ?_
                                  rotate_left
                                  · intro w hSw; clear hSw; go_simp; (try with_reducible rfl)
                                  (try simp only [List.getElem_toArray, List.getElem_cons_succ, List.getElem_cons_zero])
                                  (try simp only [Act.put, List.setIfInBounds_toArray, List.set_cons_zero, List.set_cons_succ])
                                  refine wpHold_take (i := 2) (v := ?_) rfl (by kernel_rfl) (by kernel_rfl) (by kernel_rfl) (fun _ _ _ h => h) (Or.inl ⟨by rfl, ?_⟩) hC0 ?_
                                  rotate_left
                                  · intro w hSw; clear hSw; go_simp; (try with_reducible rfl)
                                  (try simp only [List.getElem_toArray, List.getElem_cons_succ, List.getElem_cons_zero])
                                  (try simp only [Act.put, List.setIfInBounds_toArray, List.set_cons_zero, List.set_cons_succ])
                                  refine wpHold_take (i := 3) (v := ?_) rfl (by kernel_rfl) (by kernel_rfl) (by kernel_rfl) (fun _ _ _ h => h) (Or.inl ⟨by rfl, ?_⟩) hC0 ?_
                                  rotate_left
                                  · intro w hSw; (try dsimp only at hSw); obtain z0 := hSw; go_simp; (try with_reducible rfl)
                                  (try simp only [List.getElem_toArray, List.getElem_cons_succ, List.getElem_cons_zero])
                                  (try simp only [Act.put, List.setIfInBounds_toArray, List.set_cons_zero, List.set_cons_succ])
                                  refine wpHold_take (i := 4) (v := ?_) rfl (by kernel_rfl) (by kernel_rfl) (by kernel_rfl) (fun _ _ _ h => h) (Or.inl ⟨by rfl, ?_⟩) hC0 ?_
                                  rotate_left
                                  · intro w hSw; clear hSw; go_simp; (try with_reducible rfl)
                                  (try simp only [List.getElem_toArray, List.getElem_cons_succ, List.getElem_cons_zero])
                                  (try simp only [Act.put, List.setIfInBounds_toArray, List.set_cons_zero, List.set_cons_succ])
                                  refine wpHold_take (i := 5) (v := ?_) rfl (by kernel_rfl) (by kernel_rfl) (by kernel_rfl) (fun _ _ _ h => h) (Or.inl ⟨by rfl, ?_⟩) hC0 ?_
                                  rotate_left
                                  · intro w hSw; clear hSw; go_simp; (try with_reducible rfl)
                                  (try simp only [List.getElem_toArray, List.getElem_cons_succ, List.getElem_cons_zero])
                                  (try simp only [Act.put, List.setIfInBounds_toArray, List.set_cons_zero, List.set_cons_succ])
                                  refine wpHold_take (i := 6) (v := ?_) rfl (by kernel_rfl) (by kernel_rfl) (by kernel_rfl) (fun _ _ _ h => h) (Or.inl ⟨by rfl, ?_⟩) hC0 ?_
                                  rotate_left
                                  · intro w hSw; clear hSw; go_simp; (try with_reducible rfl)
                                  (try simp only [List.getElem_toArray, List.getElem_cons_succ, List.getElem_cons_zero])
                                  (try simp only [Act.put, List.setIfInBounds_toArray, List.set_cons_zero, List.set_cons_succ])
                                  refine wpHold_take (i := 7) (v := ?_) rfl (by kernel_rfl) (by kernel_rfl) (by kernel_rfl) (fun _ _ _ h => h) (Or.inl ⟨by rfl, ?_⟩) hC0 ?_
                                  rotate_left
                                  · intro w hSw; clear hSw; go_simp; (try with_reducible rfl)
                                  (try simp only [List.getElem_toArray, List.getElem_cons_succ, List.getElem_cons_zero])
                                  (try simp only [Act.put, List.setIfInBounds_toArray, List.set_cons_zero, List.set_cons_succ])
                                  refine wpHold_take (i := 8) (v := ?_) rfl (by kernel_rfl) (by kernel_rfl) (by kernel_rfl) (fun _ _ _ h => h) (Or.inl ⟨by rfl, ?_⟩) hC0 ?_
                                  rotate_left
                                  · intro w hSw; clear hSw; go_simp; (try with_reducible rfl)
                                  (try simp only [List.getElem_toArray, List.getElem_cons_succ, List.getElem_cons_zero])
                                  (try simp only [Act.put, List.setIfInBounds_toArray, List.set_cons_zero, List.set_cons_succ])
                                  refine wpHold_take (i := 9) (v := undef) rfl (by kernel_rfl) (by kernel_rfl) (by kernel_rfl) (fun _ _ _ h => h) (Or.inr ⟨by rfl, rfl⟩) hC0 ?_
                                  (try simp only [List.getElem_toArray, List.getElem_cons_succ, List.getElem_cons_zero])
                                  (try simp only [Act.put, List.setIfInBounds_toArray, List.set_cons_zero, List.set_cons_succ])
                                  refine wpHold_take (i := 10) (v := undef) rfl (by kernel_rfl) (by kernel_rfl) (by kernel_rfl) (fun _ _ _ h => h) (Or.inr ⟨by rfl, rfl⟩) hC0 ?_
                                  (try simp only [List.getElem_toArray, List.getElem_cons_succ, List.getElem_cons_zero])
                                  (try simp only [Act.put, List.setIfInBounds_toArray, List.set_cons_zero, List.set_cons_succ])
                                  refine wpHold_take (i := 11) (v := undef) rfl (by kernel_rfl) (by kernel_rfl) (by kernel_rfl) (fun _ _ _ h => h) (Or.inr ⟨by rfl, rfl⟩) hC0 ?_
                                  (try simp only [List.getElem_toArray, List.getElem_cons_succ, List.getElem_cons_zero])
                                  (try simp only [Act.put, List.setIfInBounds_toArray, List.set_cons_zero, List.set_cons_succ])
                                  refine wpHold_take (i := 12) (v := undef) rfl (by kernel_rfl) (by kernel_rfl) (by kernel_rfl) (fun _ _ _ h => h) (Or.inr ⟨by rfl, rfl⟩) hC0 ?_
                                  (try simp only [List.getElem_toArray, List.getElem_cons_succ, List.getElem_cons_zero])
                                  (try simp only [Act.put, List.setIfInBounds_toArray, List.set_cons_zero, List.set_cons_succ])
                                  refine wpHold_take (i := 13) (v := undef) rfl (by kernel_rfl) (by kernel_rfl) (by kernel_rfl) (fun _ _ _ h => h) (Or.inr ⟨by rfl, rfl⟩) hC0 ?_
                                  (try simp only [List.getElem_toArray, List.getElem_cons_succ, List.getElem_cons_zero])
                                  (try simp only [Act.put, List.setIfInBounds_toArray, List.set_cons_zero, List.set_cons_succ])
                                  refine wpHold_take (i := 14) (v := undef) rfl (by kernel_rfl) (by kernel_rfl) (by kernel_rfl) (fun _ _ _ h => h) (Or.inr ⟨by rfl, rfl⟩) hC0 ?_
                                  (try simp only [List.getElem_toArray, List.getElem_cons_succ, List.getElem_cons_zero])
                                  (try simp only [Act.put, List.setIfInBounds_toArray, List.set_cons_zero, List.set_cons_succ])
                                  refine wpHold_take (i := 15) (v := undef) rfl (by kernel_rfl) (by kernel_rfl) (by kernel_rfl) (fun _ _ _ h => h) (Or.inr ⟨by rfl, rfl⟩) hC0 ?_
                                  (try simp only [List.getElem_toArray, List.getElem_cons_succ, List.getElem_cons_zero])
                                  (try simp only [Act.put, List.setIfInBounds_toArray, List.set_cons_zero, List.set_cons_succ])
                                  refine wpHold_take (i := 16) (v := undef) rfl (by kernel_rfl) (by kernel_rfl) (by kernel_rfl) (fun _ _ _ h => h) (Or.inr ⟨by rfl, rfl⟩) hC0 ?_
                                  (try simp only [List.getElem_toArray, List.getElem_cons_succ, List.getElem_cons_zero])
                                  (try simp only [Act.put, List.setIfInBounds_toArray, List.set_cons_zero, List.set_cons_succ])
                                  refine wpHold_take (i := 17) (v := undef) rfl (by kernel_rfl) (by kernel_rfl) (by kernel_rfl) (fun _ _ _ h => h) (Or.inr ⟨by rfl, rfl⟩) hC0 ?_
                                  (try simp only [List.getElem_toArray, List.getElem_cons_succ, List.getElem_cons_zero])
                                  (try simp only [Act.put, List.setIfInBounds_toArray, List.set_cons_zero, List.set_cons_succ])
                                  refine wpHold_take (i := 18) (v := ?_) rfl (by kernel_rfl) (by kernel_rfl) (by kernel_rfl) (fun _ _ _ h => h) (Or.inl ⟨by rfl, ?_⟩) hC0 ?_
                                  rotate_left
                                  · intro w hSw; clear hSw; go_simp; (try with_reducible rfl)
                                  (try simp only [List.getElem_toArray, List.getElem_cons_succ, List.getElem_cons_zero])
                                  (try simp only [Act.put, List.setIfInBounds_toArray, List.set_cons_zero, List.set_cons_succ])
                                  refine wpHold_take (i := 19) (v := ?_) rfl (by kernel_rfl) (by kernel_rfl) (by kernel_rfl) (fun _ _ _ h => h) (Or.inl ⟨by rfl, ?_⟩) hC0 ?_
                                  rotate_left
                                  · intro w hSw; clear hSw; go_simp; (try with_reducible rfl)
                                  (try simp only [List.getElem_toArray, List.getElem_cons_succ, List.getElem_cons_zero])
                                  (try simp only [Act.put, List.setIfInBounds_toArray, List.set_cons_zero, List.set_cons_succ])
                                  refine wpHold_done (by kernel_rfl) ?_ _
                                  have HB9' := hide (below_step (unhide HB9) bd0)
                                  clear hC0 bd0 HCC
                                  go_wp2
                                  exact ⟨⟨p + 1, by go_num, by rw [unhide HNB], hpl, unhide HB9'⟩, by simp [intOf]; omega⟩
                                · subst hr
                                  have hxn : x < n := unhide HMN x (List.mem_of_mem_take hxm)
                                  have c3' := hcl x hxn
                                  rw [← bL.cell (p := ⟨lb, lo + x, none⟩) hlb0] at c3'
                                  rw [Int.toNat_natCast] at HNB
                                  obtain ⟨y, hy⟩ : ∃ y, lvI nx n i = y := ⟨_, rfl⟩
                                  obtain ⟨z, hz⟩ : ∃ z, lvI nx n x = z := ⟨_, rfl⟩
                                  have c2 := c2'
                                  have c3 := c3'
                                  rw [hy] at c2
                                  rw [hz] at c3
                                  have e6 : (0 : Int) ≤ (x : Int) := by omega
                                  have e7 : (x : Int) < (n : Int) := by omega
                                  have e8 : ¬ (x : Int) < 0 := by omega
                                  have hyl : y = (lv nx n i : Int) := hy.symm
                                  have hzl : z = (lv nx n x : Int) := hz.symm
                                  by_cases g2 : z < y
                                  · rw [if_pos ⟨g1, Or.inr (by omega)⟩] at HNB
                                    clear c2' c3' hs OD bL hlb0 hi hi2 him hd hb9 hxm hyl hzl hy hz
                                    have HCC : Hid (∀ W, Below wr.heap.size wr W → (fun w' : World => w'.cell? ⟨GD, i, none⟩ = some (.int .i64 d) ∧ w'.cell? ⟨lb, lo + i, none⟩ = some (.int .i64 y) ∧ w'.cell? ⟨lb, lo + x, none⟩ = some (.int .i64 z)) W) := fun W hW => by
                                      show _ ∧ _ ∧ _
                                      rw [hW.cell (p := ⟨GD, i, none⟩) hgl, hW.cell (p := ⟨lb, lo + i, none⟩) hlb, hW.cell (p := ⟨lb, lo + x, none⟩) hlb]
                                      exact ⟨c1, c2, c3⟩
                                    clear c1 hgl hcl hcm hlb
                                    (try clear c2 c3)
                                    go_wp2_with fail
                                    refine wp_region_hold (fun w' : World => w'.cell? ⟨GD, i, none⟩ = some (.int .i64 d) ∧ w'.cell? ⟨lb, lo + i, none⟩ = some (.int .i64 y) ∧ w'.cell? ⟨lb, lo + x, none⟩ = some (.int .i64 z)) (by kernel_rfl) ?_
                                    have bd0 : Below wr.heap.size wr wr.drew := (Below.refl _ _).drew
                                    have hC0 : (fun w' : World => w'.cell? ⟨GD, i, none⟩ = some (.int .i64 d) ∧ w'.cell? ⟨lb, lo + i, none⟩ = some (.int .i64 y) ∧ w'.cell? ⟨lb, lo + x, none⟩ = some (.int .i64 z)) wr.drew := unhide HCC _ bd0
                                    refine wpHold_take (i := 0) (v := ?_) rfl (by kernel_rfl) (by kernel_rfl) (by kernel_rfl) (fun _ _ _ h => h) (Or.inl ⟨by rfl, ?_⟩) hC0 ?_
                                    rotate_left
                                    · intro w hSw; clear hSw; go_simp; (try with_reducible rfl)
                                    (try simp only [List.getElem_toArray, List.getElem_cons_succ, List.getElem_cons_zero])
                                    (try simp only [Act.put, List.setIfInBounds_toArray, List.set_cons_zero, List.set_cons_succ])
                                    refine wpHold_take (i := 1) (v := ?_) rfl (by kernel_rfl) (by kernel_rfl) (by kernel_rfl) (fun _ _ _ h => h) (Or.inl ⟨by rfl, ?_⟩) hC0 ?_
                                    rotate_left
                                    · intro w hSw; clear hSw; go_simp; (try with_reducible rfl)
                                    (try simp only [List.getElem_toArray, List.getElem_cons_succ, List.getElem_cons_zero])
                                    (try simp only [Act.put, List.setIfInBounds_toArray, List.set_cons_zero, List.set_cons_succ])
                                    refine wpHold_take (i := 2) (v := ?_) rfl (by kernel_rfl) (by kernel_rfl) (by kernel_rfl) (fun _ _ _ h => h) (Or.inl ⟨by rfl, ?_⟩) hC0 ?_
                                    rotate_left
                                    · intro w hSw; clear hSw; go_simp; (try with_reducible rfl)
                                    (try simp only [List.getElem_toArray, List.getElem_cons_succ, List.getElem_cons_zero])
                                    (try simp only [Act.put, List.setIfInBounds_toArray, List.set_cons_zero, List.set_cons_succ])
                                    refine wpHold_take (i := 3) (v := ?_) rfl (by kernel_rfl) (by kernel_rfl) (by kernel_rfl) (fun _ _ _ h => h) (Or.inl ⟨by rfl, ?_⟩) hC0 ?_
                                    rotate_left
                                    · intro w hSw; (try dsimp only at hSw); obtain ⟨z0, z1, z2⟩ := hSw; go_simp; (try with_reducible rfl)
                                    (try simp only [List.getElem_toArray, List.getElem_cons_succ, List.getElem_cons_zero])
                                    (try simp only [Act.put, List.setIfInBounds_toArray, List.set_cons_zero, List.set_cons_succ])
                                    refine wpHold_take (i := 4) (v := ?_) rfl (by kernel_rfl) (by kernel_rfl) (by kernel_rfl) (fun _ _ _ h => h) (Or.inl ⟨by rfl, ?_⟩) hC0 ?_
                                    rotate_left
                                    · intro w hSw; clear hSw; go_simp; (try with_reducible rfl)
                                    (try simp only [List.getElem_toArray, List.getElem_cons_succ, List.getElem_cons_zero])
                                    (try simp only [Act.put, List.setIfInBounds_toArray, List.set_cons_zero, List.set_cons_succ])
                                    refine wpHold_take (i := 5) (v := ?_) rfl (by kernel_rfl) (by kernel_rfl) (by kernel_rfl) (fun _ _ _ h => h) (Or.inl ⟨by rfl, ?_⟩) hC0 ?_
                                    rotate_left
                                    · intro w hSw; clear hSw; go_simp; (try with_reducible rfl)
                                    (try simp only [List.getElem_toArray, List.getElem_cons_succ, List.getElem_cons_zero])
                                    (try simp only [Act.put, List.setIfInBounds_toArray, List.set_cons_zero, List.set_cons_succ])
                                    refine wpHold_take (i := 6) (v := ?_) rfl (by kernel_rfl) (by kernel_rfl) (by kernel_rfl) (fun _ _ _ h => h) (Or.inl ⟨by rfl, ?_⟩) hC0 ?_
                                    rotate_left
                                    · intro w hSw; clear hSw; go_simp; (try with_reducible rfl)
                                    (try simp only [List.getElem_toArray, List.getElem_cons_succ, List.getElem_cons_zero])
                                    (try simp only [Act.put, List.setIfInBounds_toArray, List.set_cons_zero, List.set_cons_succ])
                                    refine wpHold_take (i := 7) (v := ?_) rfl (by kernel_rfl) (by kernel_rfl) (by kernel_rfl) (fun _ _ _ h => h) (Or.inl ⟨by rfl, ?_⟩) hC0 ?_
                                    rotate_left
                                    · intro w hSw; clear hSw; go_simp; (try with_reducible rfl)
                                    (try simp only [List.getElem_toArray, List.getElem_cons_succ, List.getElem_cons_zero])
                                    (try simp only [Act.put, List.setIfInBounds_toArray, List.set_cons_zero, List.set_cons_succ])
                                    refine wpHold_take (i := 8) (v := ?_) rfl (by kernel_rfl) (by kernel_rfl) (by kernel_rfl) (fun _ _ _ h => h) (Or.inl ⟨by rfl, ?_⟩) hC0 ?_
                                    rotate_left
                                    · intro w hSw; clear hSw; go_simp; (try with_reducible rfl)
                                    (try simp only [List.getElem_toArray, List.getElem_cons_succ, List.getElem_cons_zero])
                                    (try simp only [Act.put, List.setIfInBounds_toArray, List.set_cons_zero, List.set_cons_succ])
                                    refine wpHold_take (i := 9) (v := ?_) rfl (by kernel_rfl) (by kernel_rfl) (by kernel_rfl) (fun _ _ _ h => h) (Or.inl ⟨by rfl, ?_⟩) hC0 ?_
                                    rotate_left
                                    · intro w hSw; clear hSw; go_simp; (try with_reducible rfl)
                                    (try simp only [List.getElem_toArray, List.getElem_cons_succ, List.getElem_cons_zero])
                                    (try simp only [Act.put, List.setIfInBounds_toArray, List.set_cons_zero, List.set_cons_succ])
                                    refine wpHold_take (i := 10) (v := ?_) rfl (by kernel_rfl) (by kernel_rfl) (by kernel_rfl) (fun _ _ _ h => h) (Or.inl ⟨by rfl, ?_⟩) hC0 ?_
                                    rotate_left
                                    · intro w hSw; clear hSw; go_simp; (try with_reducible rfl)
                                    (try simp only [List.getElem_toArray, List.getElem_cons_succ, List.getElem_cons_zero])
                                    (try simp only [Act.put, List.setIfInBounds_toArray, List.set_cons_zero, List.set_cons_succ])
                                    refine wpHold_take (i := 11) (v := ?_) rfl (by kernel_rfl) (by kernel_rfl) (by kernel_rfl) (fun _ _ _ h => h) (Or.inl ⟨by rfl, ?_⟩) hC0 ?_
                                    rotate_left
                                    · intro w hSw; clear hSw; go_simp; (try with_reducible rfl)
                                    (try simp only [List.getElem_toArray, List.getElem_cons_succ, List.getElem_cons_zero])
                                    (try simp only [Act.put, List.setIfInBounds_toArray, List.set_cons_zero, List.set_cons_succ])
                                    refine wpHold_take (i := 12) (v := ?_) rfl (by kernel_rfl) (by kernel_rfl) (by kernel_rfl) (fun _ _ _ h => h) (Or.inl ⟨by rfl, ?_⟩) hC0 ?_
                                    rotate_left
                                    · intro w hSw; (try dsimp only at hSw); obtain ⟨z0, z1, z2⟩ := hSw; go_simp; (try with_reducible rfl)
                                    (try simp only [List.getElem_toArray, List.getElem_cons_succ, List.getElem_cons_zero])
                                    (try simp only [Act.put, List.setIfInBounds_toArray, List.set_cons_zero, List.set_cons_succ])
                                    refine wpHold_take (i := 13) (v := ?_) rfl (by kernel_rfl) (by kernel_rfl) (by kernel_rfl) (fun _ _ _ h => h) (Or.inl ⟨by rfl, ?_⟩) hC0 ?_
                                    rotate_left
                                    · intro w hSw; clear hSw; go_simp; (try with_reducible rfl)
                                    (try simp only [List.getElem_toArray, List.getElem_cons_succ, List.getElem_cons_zero])
                                    (try simp only [Act.put, List.setIfInBounds_toArray, List.set_cons_zero, List.set_cons_succ])
                                    refine wpHold_take (i := 14) (v := ?_) rfl (by kernel_rfl) (by kernel_rfl) (by kernel_rfl) (fun _ _ _ h => h) (Or.inl ⟨by rfl, ?_⟩) hC0 ?_
                                    rotate_left
                                    · intro w hSw; clear hSw; go_simp; (try with_reducible rfl)
                                    (try simp only [List.getElem_toArray, List.getElem_cons_succ, List.getElem_cons_zero])
                                    (try simp only [Act.put, List.setIfInBounds_toArray, List.set_cons_zero, List.set_cons_succ])
                                    refine wpHold_take (i := 15) (v := ?_) rfl (by kernel_rfl) (by kernel_rfl) (by kernel_rfl) (fun _ _ _ h => h) (Or.inl ⟨by rfl, ?_⟩) hC0 ?_
                                    rotate_left
                                    · intro w hSw; clear hSw; go_simp; (try with_reducible rfl)
                                    (try simp only [List.getElem_toArray, List.getElem_cons_succ, List.getElem_cons_zero])
                                    (try simp only [Act.put, List.setIfInBounds_toArray, List.set_cons_zero, List.set_cons_succ])
                                    refine wpHold_take (i := 16) (v := ?_) rfl (by kernel_rfl) (by kernel_rfl) (by kernel_rfl) (fun _ _ _ h => h) (Or.inl ⟨by rfl, ?_⟩) hC0 ?_
                                    rotate_left
                                    · intro w hSw; (try dsimp only at hSw); obtain ⟨z0, z1, z2⟩ := hSw; go_simp; (try with_reducible rfl)
                                    (try simp only [List.getElem_toArray, List.getElem_cons_succ, List.getElem_cons_zero])
                                    (try simp only [Act.put, List.setIfInBounds_toArray, List.set_cons_zero, List.set_cons_succ])
                                    refine wpHold_take (i := 17) (v := ?_) rfl (by kernel_rfl) (by kernel_rfl) (by kernel_rfl) (fun _ _ _ h => h) (Or.inl ⟨by rfl, ?_⟩) hC0 ?_
                                    rotate_left
                                    · intro w hSw; clear hSw; go_simp; (try with_reducible rfl)
                                    (try simp only [List.getElem_toArray, List.getElem_cons_succ, List.getElem_cons_zero])
                                    (try simp only [Act.put, List.setIfInBounds_toArray, List.set_cons_zero, List.set_cons_succ])
                                    refine wpHold_take (i := 18) (v := ?_) rfl (by kernel_rfl) (by kernel_rfl) (by kernel_rfl) (fun _ _ _ h => h) (Or.inl ⟨by rfl, ?_⟩) hC0 ?_
                                    rotate_left
                                    · intro w hSw; clear hSw; go_simp; (try with_reducible rfl)
                                    (try simp only [List.getElem_toArray, List.getElem_cons_succ, List.getElem_cons_zero])
                                    (try simp only [Act.put, List.setIfInBounds_toArray, List.set_cons_zero, List.set_cons_succ])
                                    refine wpHold_take (i := 19) (v := ?_) rfl (by kernel_rfl) (by kernel_rfl) (by kernel_rfl) (fun _ _ _ h => h) (Or.inl ⟨by rfl, ?_⟩) hC0 ?_
                                    rotate_left
                                    · intro w hSw; clear hSw; go_simp; (try with_reducible rfl)
                                    (try simp only [List.getElem_toArray, List.getElem_cons_succ, List.getElem_cons_zero])
                                    (try simp only [Act.put, List.setIfInBounds_toArray, List.set_cons_zero, List.set_cons_succ])
                                    refine wpHold_done (by kernel_rfl) ?_ _
                                    have HB9' := hide (below_step (unhide HB9) bd0)
                                    clear hC0 bd0 HCC
                                    go_wp2
                                    exact ⟨⟨p + 1, by go_num, by rw [unhide HNB], hpl, unhide HB9'⟩, by simp [intOf]; omega⟩
                                  · rw [if_neg (fun h => h.2.elim (by omega) (by omega))] at HNB
                                    clear c2' c3' hs OD bL hlb0 hi hi2 him hd hb9 hxm hyl hzl hy hz
                                    have HCC : Hid (∀ W, Below wr.heap.size wr W → (fun w' : World => w'.cell? ⟨GD, i, none⟩ = some (.int .i64 d) ∧ w'.cell? ⟨lb, lo + i, none⟩ = some (.int .i64 y) ∧ w'.cell? ⟨lb, lo + x, none⟩ = some (.int .i64 z)) W) := fun W hW => by
                                      show _ ∧ _ ∧ _
                                      rw [hW.cell (p := ⟨GD, i, none⟩) hgl, hW.cell (p := ⟨lb, lo + i, none⟩) hlb, hW.cell (p := ⟨lb, lo + x, none⟩) hlb]
                                      exact ⟨c1, c2, c3⟩
                                    clear c1 hgl hcl hcm hlb
                                    (try clear c2 c3)
                                    go_wp2_with fail
                                    refine wp_region_hold (fun w' : World => w'.cell? ⟨GD, i, none⟩ = some (.int .i64 d) ∧ w'.cell? ⟨lb, lo + i, none⟩ = some (.int .i64 y) ∧ w'.cell? ⟨lb, lo + x, none⟩ = some (.int .i64 z)) (by kernel_rfl) ?_
                                    have bd0 : Below wr.heap.size wr wr.drew := (Below.refl _ _).drew
                                    have hC0 : (fun w' : World => w'.cell? ⟨GD, i, none⟩ = some (.int .i64 d) ∧ w'.cell? ⟨lb, lo + i, none⟩ = some (.int .i64 y) ∧ w'.cell? ⟨lb, lo + x, none⟩ = some (.int .i64 z)) wr.drew := unhide HCC _ bd0
                                    refine wpHold_take (i := 0) (v := ?_) rfl (by kernel_rfl) (by kernel_rfl) (by kernel_rfl) (fun _ _ _ h => h) (Or.inl ⟨by rfl, ?_⟩) hC0 ?_
                                    rotate_left
                                    · intro w hSw; clear hSw; go_simp; (try with_reducible rfl)
                                    (try simp only [List.getElem_toArray, List.getElem_cons_succ, List.getElem_cons_zero])
                                    (try simp only [Act.put, List.setIfInBounds_toArray, List.set_cons_zero, List.set_cons_succ])
                                    refine wpHold_take (i := 1) (v := ?_) rfl (by kernel_rfl) (by kernel_rfl) (by kernel_rfl) (fun _ _ _ h => h) (Or.inl ⟨by rfl, ?_⟩) hC0 ?_
                                    rotate_left
                                    · intro w hSw; clear hSw; go_simp; (try with_reducible rfl)
                                    (try simp only [List.getElem_toArray, List.getElem_cons_succ, List.getElem_cons_zero])
                                    (try simp only [Act.put, List.setIfInBounds_toArray, List.set_cons_zero, List.set_cons_succ])
                                    refine wpHold_take (i := 2) (v := ?_) rfl (by kernel_rfl) (by kernel_rfl) (by kernel_rfl) (fun _ _ _ h => h) (Or.inl ⟨by rfl, ?_⟩) hC0 ?_
                                    rotate_left
                                    · intro w hSw; clear hSw; go_simp; (try with_reducible rfl)
                                    (try simp only [List.getElem_toArray, List.getElem_cons_succ, List.getElem_cons_zero])
                                    (try simp only [Act.put, List.setIfInBounds_toArray, List.set_cons_zero, List.set_cons_succ])
                                    refine wpHold_take (i := 3) (v := ?_) rfl (by kernel_rfl) (by kernel_rfl) (by kernel_rfl) (fun _ _ _ h => h) (Or.inl ⟨by rfl, ?_⟩) hC0 ?_
                                    rotate_left
                                    · intro w hSw; (try dsimp only at hSw); obtain ⟨z0, z1, z2⟩ := hSw; go_simp; (try with_reducible rfl)
                                    (try simp only [List.getElem_toArray, List.getElem_cons_succ, List.getElem_cons_zero])
                                    (try simp only [Act.put, List.setIfInBounds_toArray, List.set_cons_zero, List.set_cons_succ])
                                    refine wpHold_take (i := 4) (v := ?_) rfl (by kernel_rfl) (by kernel_rfl) (by kernel_rfl) (fun _ _ _ h => h) (Or.inl ⟨by rfl, ?_⟩) hC0 ?_
                                    rotate_left
                                    · intro w hSw; clear hSw; go_simp; (try with_reducible rfl)
                                    (try simp only [List.getElem_toArray, List.getElem_cons_succ, List.getElem_cons_zero])
                                    (try simp only [Act.put, List.setIfInBounds_toArray, List.set_cons_zero, List.set_cons_succ])
                                    refine wpHold_take (i := 5) (v := ?_) rfl (by kernel_rfl) (by kernel_rfl) (by kernel_rfl) (fun _ _ _ h => h) (Or.inl ⟨by rfl, ?_⟩) hC0 ?_
                                    rotate_left
                                    · intro w hSw; clear hSw; go_simp; (try with_reducible rfl)
                                    (try simp only [List.getElem_toArray, List.getElem_cons_succ, List.getElem_cons_zero])
                                    (try simp only [Act.put, List.setIfInBounds_toArray, List.set_cons_zero, List.set_cons_succ])
                                    refine wpHold_take (i := 6) (v := ?_) rfl (by kernel_rfl) (by kernel_rfl) (by kernel_rfl) (fun _ _ _ h => h) (Or.inl ⟨by rfl, ?_⟩) hC0 ?_
                                    rotate_left
                                    · intro w hSw; clear hSw; go_simp; (try with_reducible rfl)
                                    (try simp only [List.getElem_toArray, List.getElem_cons_succ, List.getElem_cons_zero])
                                    (try simp only [Act.put, List.setIfInBounds_toArray, List.set_cons_zero, List.set_cons_succ])
                                    refine wpHold_take (i := 7) (v := ?_) rfl (by kernel_rfl) (by kernel_rfl) (by kernel_rfl) (fun _ _ _ h => h) (Or.inl ⟨by rfl, ?_⟩) hC0 ?_
                                    rotate_left
                                    · intro w hSw; clear hSw; go_simp; (try with_reducible rfl)
                                    (try simp only [List.getElem_toArray, List.getElem_cons_succ, List.getElem_cons_zero])
                                    (try simp only [Act.put, List.setIfInBounds_toArray, List.set_cons_zero, List.set_cons_succ])
                                    refine wpHold_take (i := 8) (v := ?_) rfl (by kernel_rfl) (by kernel_rfl) (by kernel_rfl) (fun _ _ _ h => h) (Or.inl ⟨by rfl, ?_⟩) hC0 ?_
                                    rotate_left
                                    · intro w hSw; clear hSw; go_simp; (try with_reducible rfl)
                                    (try simp only [List.getElem_toArray, List.getElem_cons_succ, List.getElem_cons_zero])
                                    (try simp only [Act.put, List.setIfInBounds_toArray, List.set_cons_zero, List.set_cons_succ])
                                    refine wpHold_take (i := 9) (v := ?_) rfl (by kernel_rfl) (by kernel_rfl) (by kernel_rfl) (fun _ _ _ h => h) (Or.inl ⟨by rfl, ?_⟩) hC0 ?_
                                    rotate_left
                                    · intro w hSw; clear hSw; go_simp; (try with_reducible rfl)
                                    (try simp only [List.getElem_toArray, List.getElem_cons_succ, List.getElem_cons_zero])
                                    (try simp only [Act.put, List.setIfInBounds_toArray, List.set_cons_zero, List.set_cons_succ])
                                    refine wpHold_take (i := 10) (v := ?_) rfl (by kernel_rfl) (by kernel_rfl) (by kernel_rfl) (fun _ _ _ h => h) (Or.inl ⟨by rfl, ?_⟩) hC0 ?_
                                    rotate_left
                                    · intro w hSw; clear hSw; go_simp; (try with_reducible rfl)
                                    (try simp only [List.getElem_toArray, List.getElem_cons_succ, List.getElem_cons_zero])
                                    (try simp only [Act.put, List.setIfInBounds_toArray, List.set_cons_zero, List.set_cons_succ])
                                    refine wpHold_take (i := 11) (v := ?_) rfl (by kernel_rfl) (by kernel_rfl) (by kernel_rfl) (fun _ _ _ h => h) (Or.inl ⟨by rfl, ?_⟩) hC0 ?_
                                    rotate_left
                                    · intro w hSw; clear hSw; go_simp; (try with_reducible rfl)
                                    (try simp only [List.getElem_toArray, List.getElem_cons_succ, List.getElem_cons_zero])
                                    (try simp only [Act.put, List.setIfInBounds_toArray, List.set_cons_zero, List.set_cons_succ])
                                    refine wpHold_take (i := 12) (v := ?_) rfl (by kernel_rfl) (by kernel_rfl) (by kernel_rfl) (fun _ _ _ h => h) (Or.inl ⟨by rfl, ?_⟩) hC0 ?_
                                    rotate_left
                                    · intro w hSw; (try dsimp only at hSw); obtain ⟨z0, z1, z2⟩ := hSw; go_simp; (try with_reducible rfl)
                                    (try simp only [List.getElem_toArray, List.getElem_cons_succ, List.getElem_cons_zero])
                                    (try simp only [Act.put, List.setIfInBounds_toArray, List.set_cons_zero, List.set_cons_succ])
                                    refine wpHold_take (i := 13) (v := ?_) rfl (by kernel_rfl) (by kernel_rfl) (by kernel_rfl) (fun _ _ _ h => h) (Or.inl ⟨by rfl, ?_⟩) hC0 ?_
                                    rotate_left
                                    · intro w hSw; clear hSw; go_simp; (try with_reducible rfl)
                                    (try simp only [List.getElem_toArray, List.getElem_cons_succ, List.getElem_cons_zero])
                                    (try simp only [Act.put, List.setIfInBounds_toArray, List.set_cons_zero, List.set_cons_succ])
                                    refine wpHold_take (i := 14) (v := ?_) rfl (by kernel_rfl) (by kernel_rfl) (by kernel_rfl) (fun _ _ _ h => h) (Or.inl ⟨by rfl, ?_⟩) hC0 ?_
                                    rotate_left
                                    · intro w hSw; clear hSw; go_simp; (try with_reducible rfl)
                                    (try simp only [List.getElem_toArray, List.getElem_cons_succ, List.getElem_cons_zero])
                                    (try simp only [Act.put, List.setIfInBounds_toArray, List.set_cons_zero, List.set_cons_succ])
                                    refine wpHold_take (i := 15) (v := ?_) rfl (by kernel_rfl) (by kernel_rfl) (by kernel_rfl) (fun _ _ _ h => h) (Or.inl ⟨by rfl, ?_⟩) hC0 ?_
                                    rotate_left
                                    · intro w hSw; clear hSw; go_simp; (try with_reducible rfl)
                                    (try simp only [List.getElem_toArray, List.getElem_cons_succ, List.getElem_cons_zero])
                                    (try simp only [Act.put, List.setIfInBounds_toArray, List.set_cons_zero, List.set_cons_succ])
                                    refine wpHold_take (i := 16) (v := ?_) rfl (by kernel_rfl) (by kernel_rfl) (by kernel_rfl) (fun _ _ _ h => h) (Or.inl ⟨by rfl, ?_⟩) hC0 ?_
                                    rotate_left
                                    · intro w hSw; (try dsimp only at hSw); obtain ⟨z0, z1, z2⟩ := hSw; go_simp; (try with_reducible rfl)
                                    (try simp only [List.getElem_toArray, List.getElem_cons_succ, List.getElem_cons_zero])
                                    (try simp only [Act.put, List.setIfInBounds_toArray, List.set_cons_zero, List.set_cons_succ])
                                    refine wpHold_take (i := 17) (v := ?_) rfl (by kernel_rfl) (by kernel_rfl) (by kernel_rfl) (fun _ _ _ h => h) (Or.inl ⟨by rfl, ?_⟩) hC0 ?_
                                    rotate_left
                                    · intro w hSw; clear hSw; go_simp; (try with_reducible rfl)
                                    (try simp only [List.getElem_toArray, List.getElem_cons_succ, List.getElem_cons_zero])
                                    (try simp only [Act.put, List.setIfInBounds_toArray, List.set_cons_zero, List.set_cons_succ])
                                    refine wpHold_take (i := 18) (v := ?_) rfl (by kernel_rfl) (by kernel_rfl) (by kernel_rfl) (fun _ _ _ h => h) (Or.inl ⟨by rfl, ?_⟩) hC0 ?_
                                    rotate_left
                                    · intro w hSw; clear hSw; go_simp; (try with_reducible rfl)
                                    (try simp only [List.getElem_toArray, List.getElem_cons_succ, List.getElem_cons_zero])
                                    (try simp only [Act.put, List.setIfInBounds_toArray, List.set_cons_zero, List.set_cons_succ])
                                    refine wpHold_take (i := 19) (v := ?_) rfl (by kernel_rfl) (by kernel_rfl) (by kernel_rfl) (fun _ _ _ h => h) (Or.inl ⟨by rfl, ?_⟩) hC0 ?_
                                    rotate_left
                                    · intro w hSw; clear hSw; go_simp; (try with_reducible rfl)
                                    (try simp only [List.getElem_toArray, List.getElem_cons_succ, List.getElem_cons_zero])
                                    (try simp only [Act.put, List.setIfInBounds_toArray, List.set_cons_zero, List.set_cons_succ])
                                    refine wpHold_done (by kernel_rfl) ?_ _
                                    have HB9' := hide (below_step (unhide HB9) bd0)
                                    clear hC0 bd0 HCC
                                    go_wp2
                                    exact ⟨⟨p + 1, by go_num, by rw [unhide HNB], hpl, unhide HB9'⟩, by simp [intOf]; omega⟩
                              · rw [if_neg (fun h => g1 h.1)] at HNB
                                have gd : decide (d < 0) = false := decide_eq_false g1
                                clear c2' hs OD bL hlb0 hi hi2 him hd hb9 hrg
                                have HCC : Hid (∀ W, Below wr.heap.size wr W → (fun w' : World => w'.cell? ⟨GD, i, none⟩ = some (.int .i64 d)) W) := fun W hW => by
                                  show _ = _
                                  rw [hW.cell (p := ⟨GD, i, none⟩) hgl]
                                  exact c1
                                clear c1 hgl hcl hcm hlb
                                (try clear c2 c3)
                                go_wp2_with fail
                                refine wp_region_hold (fun w' : World => w'.cell? ⟨GD, i, none⟩ = some (.int .i64 d)) (by kernel_rfl) ?_
                                have bd0 : Below wr.heap.size wr wr.drew := (Below.refl _ _).drew
                                have hC0 : (fun w' : World => w'.cell? ⟨GD, i, none⟩ = some (.int .i64 d)) wr.drew := unhide HCC _ bd0
                                refine wpHold_take (i := 0) (v := ?_) rfl (by kernel_rfl) (by kernel_rfl) (by kernel_rfl) (fun _ _ _ h => h) (Or.inl ⟨by rfl, ?_⟩) hC0 ?_
                                rotate_left
                                · intro w hSw; clear hSw; go_simp; (try with_reducible rfl)
                                (try simp only [List.getElem_toArray, List.getElem_cons_succ, List.getElem_cons_zero])
                                (try simp only [Act.put, List.setIfInBounds_toArray, List.set_cons_zero, List.set_cons_succ])
                                refine wpHold_take (i := 1) (v := ?_) rfl (by kernel_rfl) (by kernel_rfl) (by kernel_rfl) (fun _ _ _ h => h) (Or.inl ⟨by rfl, ?_⟩) hC0 ?_
                                rotate_left
                                · intro w hSw; clear hSw; go_simp; (try with_reducible rfl)
                                (try simp only [List.getElem_toArray, List.getElem_cons_succ, List.getElem_cons_zero])
                                (try simp only [Act.put, List.setIfInBounds_toArray, List.set_cons_zero, List.set_cons_succ])
                                refine wpHold_take (i := 2) (v := ?_) rfl (by kernel_rfl) (by kernel_rfl) (by kernel_rfl) (fun _ _ _ h => h) (Or.inl ⟨by rfl, ?_⟩) hC0 ?_
                                rotate_left
                                · intro w hSw; clear hSw; go_simp; (try with_reducible rfl)
                                (try simp only [List.getElem_toArray, List.getElem_cons_succ, List.getElem_cons_zero])
                                (try simp only [Act.put, List.setIfInBounds_toArray, List.set_cons_zero, List.set_cons_succ])
                                refine wpHold_take (i := 3) (v := ?_) rfl (by kernel_rfl) (by kernel_rfl) (by kernel_rfl) (fun _ _ _ h => h) (Or.inl ⟨by rfl, ?_⟩) hC0 ?_
                                rotate_left
                                · intro w hSw; (try dsimp only at hSw); obtain z0 := hSw; go_simp; (try with_reducible rfl)
                                (try simp only [List.getElem_toArray, List.getElem_cons_succ, List.getElem_cons_zero])
                                (try simp only [Act.put, List.setIfInBounds_toArray, List.set_cons_zero, List.set_cons_succ])
                                refine wpHold_take (i := 4) (v := ?_) rfl (by kernel_rfl) (by kernel_rfl) (by kernel_rfl) (fun _ _ _ h => h) (Or.inl ⟨by rfl, ?_⟩) hC0 ?_
                                rotate_left
                                · intro w hSw; clear hSw; go_simp; (try with_reducible rfl)
                                (try simp only [List.getElem_toArray, List.getElem_cons_succ, List.getElem_cons_zero])
                                (try simp only [Act.put, List.setIfInBounds_toArray, List.set_cons_zero, List.set_cons_succ])
                                refine wpHold_take (i := 5) (v := ?_) rfl (by kernel_rfl) (by kernel_rfl) (by kernel_rfl) (fun _ _ _ h => h) (Or.inl ⟨by rfl, ?_⟩) hC0 ?_
                                rotate_left
                                · intro w hSw; clear hSw; go_simp; (try with_reducible rfl)
                                (try simp only [List.getElem_toArray, List.getElem_cons_succ, List.getElem_cons_zero])
                                (try simp only [Act.put, List.setIfInBounds_toArray, List.set_cons_zero, List.set_cons_succ])
                                refine wpHold_take (i := 6) (v := undef) rfl (by kernel_rfl) (by kernel_rfl) (by kernel_rfl) (fun _ _ _ h => h) (Or.inr ⟨by rfl, rfl⟩) hC0 ?_
                                (try simp only [List.getElem_toArray, List.getElem_cons_succ, List.getElem_cons_zero])
                                (try simp only [Act.put, List.setIfInBounds_toArray, List.set_cons_zero, List.set_cons_succ])
                                refine wpHold_take (i := 7) (v := undef) rfl (by kernel_rfl) (by kernel_rfl) (by kernel_rfl) (fun _ _ _ h => h) (Or.inr ⟨by rfl, rfl⟩) hC0 ?_
                                (try simp only [List.getElem_toArray, List.getElem_cons_succ, List.getElem_cons_zero])
                                (try simp only [Act.put, List.setIfInBounds_toArray, List.set_cons_zero, List.set_cons_succ])
                                refine wpHold_take (i := 8) (v := undef) rfl (by kernel_rfl) (by kernel_rfl) (by kernel_rfl) (fun _ _ _ h => h) (Or.inr ⟨by rfl, rfl⟩) hC0 ?_
                                (try simp only [List.getElem_toArray, List.getElem_cons_succ, List.getElem_cons_zero])
                                (try simp only [Act.put, List.setIfInBounds_toArray, List.set_cons_zero, List.set_cons_succ])
                                refine wpHold_take (i := 9) (v := undef) rfl (by kernel_rfl) (by kernel_rfl) (by kernel_rfl) (fun _ _ _ h => h) (Or.inr ⟨by rfl, rfl⟩) hC0 ?_
                                (try simp only [List.getElem_toArray, List.getElem_cons_succ, List.getElem_cons_zero])
                                (try simp only [Act.put, List.setIfInBounds_toArray, List.set_cons_zero, List.set_cons_succ])
                                refine wpHold_take (i := 10) (v := undef) rfl (by kernel_rfl) (by kernel_rfl) (by kernel_rfl) (fun _ _ _ h => h) (Or.inr ⟨by rfl, rfl⟩) hC0 ?_
                                (try simp only [List.getElem_toArray, List.getElem_cons_succ, List.getElem_cons_zero])
                                (try simp only [Act.put, List.setIfInBounds_toArray, List.set_cons_zero, List.set_cons_succ])
                                refine wpHold_take (i := 11) (v := undef) rfl (by kernel_rfl) (by kernel_rfl) (by kernel_rfl) (fun _ _ _ h => h) (Or.inr ⟨by rfl, rfl⟩) hC0 ?_
                                (try simp only [List.getElem_toArray, List.getElem_cons_succ, List.getElem_cons_zero])
                                (try simp only [Act.put, List.setIfInBounds_toArray, List.set_cons_zero, List.set_cons_succ])
                                refine wpHold_take (i := 12) (v := undef) rfl (by kernel_rfl) (by kernel_rfl) (by kernel_rfl) (fun _ _ _ h => h) (Or.inr ⟨by rfl, rfl⟩) hC0 ?_
                                (try simp only [List.getElem_toArray, List.getElem_cons_succ, List.getElem_cons_zero])
                                (try simp only [Act.put, List.setIfInBounds_toArray, List.set_cons_zero, List.set_cons_succ])
                                refine wpHold_take (i := 13) (v := undef) rfl (by kernel_rfl) (by kernel_rfl) (by kernel_rfl) (fun _ _ _ h => h) (Or.inr ⟨by rfl, rfl⟩) hC0 ?_
                                (try simp only [List.getElem_toArray, List.getElem_cons_succ, List.getElem_cons_zero])
                                (try simp only [Act.put, List.setIfInBounds_toArray, List.set_cons_zero, List.set_cons_succ])
                                refine wpHold_take (i := 14) (v := undef) rfl (by kernel_rfl) (by kernel_rfl) (by kernel_rfl) (fun _ _ _ h => h) (Or.inr ⟨by rfl, rfl⟩) hC0 ?_
                                (try simp only [List.getElem_toArray, List.getElem_cons_succ, List.getElem_cons_zero])
                                (try simp only [Act.put, List.setIfInBounds_toArray, List.set_cons_zero, List.set_cons_succ])
                                refine wpHold_take (i := 15) (v := undef) rfl (by kernel_rfl) (by kernel_rfl) (by kernel_rfl) (fun _ _ _ h => h) (Or.inr ⟨by rfl, rfl⟩) hC0 ?_
                                (try simp only [List.getElem_toArray, List.getElem_cons_succ, List.getElem_cons_zero])
                                (try simp only [Act.put, List.setIfInBounds_toArray, List.set_cons_zero, List.set_cons_succ])
                                refine wpHold_take (i := 16) (v := undef) rfl (by kernel_rfl) (by kernel_rfl) (by kernel_rfl) (fun _ _ _ h => h) (Or.inr ⟨by rfl, rfl⟩) hC0 ?_
                                (try simp only [List.getElem_toArray, List.getElem_cons_succ, List.getElem_cons_zero])
                                (try simp only [Act.put, List.setIfInBounds_toArray, List.set_cons_zero, List.set_cons_succ])
                                refine wpHold_take (i := 17) (v := undef) rfl (by kernel_rfl) (by kernel_rfl) (by kernel_rfl) (fun _ _ _ h => h) (Or.inr ⟨by rfl, rfl⟩) hC0 ?_
                                (try simp only [List.getElem_toArray, List.getElem_cons_succ, List.getElem_cons_zero])
                                (try simp only [Act.put, List.setIfInBounds_toArray, List.set_cons_zero, List.set_cons_succ])
                                refine wpHold_take (i := 18) (v := undef) rfl (by kernel_rfl) (by kernel_rfl) (by kernel_rfl) (fun _ _ _ h => h) (Or.inr ⟨by rfl, rfl⟩) hC0 ?_
                                (try simp only [List.getElem_toArray, List.getElem_cons_succ, List.getElem_cons_zero])
                                (try simp only [Act.put, List.setIfInBounds_toArray, List.set_cons_zero, List.set_cons_succ])
                                refine wpHold_take (i := 19) (v := ?_) rfl (by kernel_rfl) (by kernel_rfl) (by kernel_rfl) (fun _ _ _ h => h) (Or.inl ⟨by rfl, ?_⟩) hC0 ?_
                                rotate_left
                                · intro w hSw; clear hSw; go_simp; (try with_reducible rfl)
                                (try simp only [List.getElem_toArray, List.getElem_cons_succ, List.getElem_cons_zero])
                                (try simp only [Act.put, List.setIfInBounds_toArray, List.set_cons_zero, List.set_cons_succ])
                                refine wpHold_done (by kernel_rfl) ?_ _
                                have HB9' := hide (below_step (unhide HB9) bd0)
                                clear hC0 bd0 HCC
                                go_wp2
                                exact ⟨⟨p + 1, by go_num, by rw [unhide HNB], hpl, unhide HB9'⟩, by simp [intOf]; omega⟩
                            · obtain ⟨p', rfl⟩ : ∃ p', p' = p := ⟨_, rfl⟩
                              obtain rfl : ml = p' := by omega
                              have e1 : ¬ (ml : Int) < (ml : Int) := by omega
                              have hall : bst D (lv nx n) (may.take ml) = bst D (lv nx n) may := by rw [List.take_of_length_le (by rw [unhide HML]; exact Nat.le_refl _)]
                              rw [hall]
                              have OD := hide ((unhide HOD).keep hb9)
                              have OM := hide (OwnL.keep (unhide HOM) hb9)
                              have BL := hide (below_step (unhide HBW) hb9)
                              clear hall hb9
                              cases hx : (Q.filter (rdy nx Q))[j]? with
                              | none =>
                                have hbv : bst D (lv nx n) may = -1 := by rw [← unhide HDJ]; exact pick_none (unhide HV) (unhide HMS) (unhide HMM) (unhide HVQ) hx
                                rw [hbv]
                                have FO : Hid (OwnI wr GD n (dj Q T (Q.filter (rdy nx Q)) t (j + 1))) := by rw [dj_none hx, unhide HDJ]; exact unhide OD
                                have f2 : ¬ (0 : Int) ≤ (-1 : Int) := by omega
                                clear hbv hx
                                go_wp2_with fail
                                (try simp only [Exit.inBlock, Exit.then])
                                (try go_wp2_with fail)
                                exact ⟨⟨j + 1, by go_num, hjm, unhide FO, unhide OM, unhide BL⟩, by simp [intOf]; omega⟩
                              | some x =>
                                have hbv : bst D (lv nx n) may = (x : Int) := by rw [← unhide HDJ]; exact pick_some (unhide HV) (unhide HMS) (unhide HMM) (unhide HVQ) hx
                                rw [hbv]
                                have hxn : x < n := unhide HMN x ((unhide HMM x).2 (List.mem_of_getElem? hx))
                                have FO : Hid (OwnI (wr.setCell ⟨GD, x, none⟩ (.int .i64 (t : Int))) GD n (dj Q T (Q.filter (rdy nx Q)) t (j + 1))) := ((unhide OD).set x (t : Int)).congr (fun i _ => by rw [← dj_some hx i, unhide HDJ]; rfl)
                                have FM : Hid (OwnN (wr.setCell ⟨GD, x, none⟩ (.int .i64 (t : Int))) (GD + 1) (.slice ma ml mc) may) := OwnL.apart (unhide OM) (fun k hk => by have := OwnL.row (unhide OM) k hk; omega)
                                have FB := hide ((unhide BL).setCell (p := ⟨GD, x, none⟩) (Nat.le_of_eq (unhide HGD)) (.int .i64 (t : Int)))
                                have y0 := (unhide OD).cell hxn
                                have l0 := (unhide OD).free x
                                have f2 : (0 : Int) ≤ (x : Int) := by omega
                                have f3 : (x : Int) < (n : Int) := by omega
                                clear hbv hx
                                go_wp2_with fail
                                (try simp only [Exit.inBlock, Exit.then])
                                (try go_wp2_with fail)
                                exact ⟨⟨j + 1, by go_num, hjm, unhide FO, unhide FM, unhide FB⟩, by simp [intOf]; omega⟩
                        · obtain rfl : j = M := by omega
                          have e1 : ¬ (j : Int) < (j : Int) := by omega
                          have hnx := (unhide HS).next (unhide HQN) m1 (unhide HLS) hOD hbl
                          have HNX := hide hnx.1
                          have htn := hnx.2
                          have e2 : IntKind.i64.wrap ((t : Int) + 1) = (t : Int) + 1 := by rw [IntKind.wrap_i64]; omega
                          clear hOD hOM hbl hnx
                          go_wp2_with fail
                          (try simp only [Exit.inBlock, Exit.then])
                          (try go_wp2_with fail)
                          exact ⟨⟨t + 1, _, _, by go_num, unhide HNX⟩, by simp [intOf]; omega⟩
end Go.Proofs.YtepgdlgifempeaaDoor
