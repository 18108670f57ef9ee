/- Arms in memory; Check. -/
import Derived.Test.YtjlohghknejjoaaGreatDoorGT0
namespace Go.Proofs.YtjlohghknejjoaaGreatDoor
open Go.RowKit Go.Sort Go.Shelf

/-- An arm as the mathematics has it. -/
def arm (g : List Rat) (P : List (List Rat)) (b : Rat) : Git.Arm := ⟨g.length, fun i => g[i]!, fun i k => (P[i]!)[k]!, b⟩
def aval (m l : Sl) : Value := .agg #[.slice m.a m.n m.c, .slice l.a l.n l.c]
def ArmIs (w : World) (v : Value) (g : List Rat) (P : List (List Rat)) : Prop := ∃ m l : Sl, v = aval m l ∧ LawIs w m.val g ∧ RowsAre w l.val P
theorem ArmIs.below {w w' : World} {v : Value} {g : List Rat} {P : List (List Rat)} (h : ArmIs w v g P) (hb : Below w.heap.size w w') : ArmIs w' v g P := by
  obtain ⟨m, l, e, h1, h2⟩ := h
  exact ⟨m, l, e, h1.below hb, h2.below hb⟩
/-- An arm's box. -/
def ArmBox (w : World) (b : Nat) (m l : Sl) (g : List Rat) (P : List (List Rat)) : Prop := w.heap[b]? = some (.cells #[.slice m.a m.n m.c, .slice l.a l.n l.c] 32) ∧ LawIs w m.val g ∧ RowsAre w l.val P
theorem ArmBox.new {w : World} {m l : Sl} {g : List Rat} {P : List (List Rat)} (h1 : LawIs w m.val g) (h2 : RowsAre w l.val P) : ArmBox (w.alloc (.cells #[.slice m.a m.n m.c, .slice l.a l.n l.c] 32)) w.heap.size m l g P := ⟨heap_alloc_new w _, h1.below (alloc_below w _), h2.below (alloc_below w _)⟩
theorem ArmBox.lt {w : World} {b : Nat} {m l : Sl} {g : List Rat} {P : List (List Rat)} (h : ArmBox w b m l g P) : b < w.heap.size := (Array.getElem?_eq_some_iff.1 h.1).1
theorem ArmBox.keep {w w' : World} {b : Nat} {m l : Sl} {g : List Rat} {P : List (List Rat)} (h : ArmBox w b m l g P) (hb : Below w.heap.size w w') : ArmBox w' b m l g P := ⟨by rw [hb.block _ h.lt]; exact h.1, h.2.1.below hb, h.2.2.below hb⟩
theorem ArmBox.cells {w : World} {b : Nat} {m l : Sl} {g : List Rat} {P : List (List Rat)} (h : ArmBox w b m l g P) : ∀ W', Below w.heap.size w W' → W'.cell? ⟨b, 0, none⟩ = some (.slice m.a m.n m.c) ∧ W'.cell? ⟨b, 1, none⟩ = some (.slice l.a l.n l.c) := fun W' hb => by
  have h' := (h.keep hb).1
  simp [World.cell?, h']
theorem ArmBox.arm {w : World} {b : Nat} {m l : Sl} {g : List Rat} {P : List (List Rat)} (h : ArmBox w b m l g P) : ArmIs w (aval m l) g P := ⟨m, l, rfl, h.2.1, h.2.2⟩
def acode (g : List Rat) (P : List (List Rat)) : Int := if 1 ≤ g.length ∧ g.length ≤ 5 then (if P.length = g.length then rcd g.length P P.length else 3) else 4
/-- An arm that may be. -/
structure GoodAr (g : List Rat) (P : List (List Rat)) : Prop where
  n1 : 1 ≤ g.length
  n5 : g.length ≤ 5
  pl : P.length = g.length
  nx : ∀ i, i < g.length → (P[i]!).length = g.length
  nn : ∀ i k, i < g.length → k < g.length → 0 ≤ (P[i]!)[k]!
  one : ∀ i, i < g.length → Bth.ps (fun k => (P[i]!)[k]!) g.length = 1
theorem goodAr_of {g : List Rat} {P : List (List Rat)} (h : acode g P = 0) : GoodAr g P := by
  unfold acode at h
  by_cases a : 1 ≤ g.length ∧ g.length ≤ 5
  rotate_left
  · rw [if_neg a] at h; exact absurd h (by decide)
  rw [if_pos a] at h
  by_cases c : P.length = g.length
  rotate_left
  · rw [if_neg c] at h; exact absurd h (by decide)
  rw [if_pos c, c] at h
  have hs := rcd_zero h
  have hsh : ∀ i, i < g.length → (P[i]!).length = g.length ∧ chk P[i]! = 0 := fun i hi => by
    have := hs i hi
    unfold shc at this
    by_cases e : (P[i]!).length = g.length
    · rw [if_pos e] at this; exact ⟨e, this⟩
    · rw [if_neg e] at this; exact absurd this (by decide)
  refine ⟨a.1, a.2, c, fun i hi => (hsh i hi).1, fun i k hi hk => (chk_parts (hsh i hi).2).1 k (by rw [(hsh i hi).1]; exact hk), fun i hi => ?_⟩
  have h2 := (chk_parts (hsh i hi).2).2
  rw [qsum_ps, (hsh i hi).1] at h2
  exact h2
theorem good_aok {g : List Rat} {P : List (List Rat)} {b : Rat} (h : GoodAr g P) (h0 : 0 ≤ b) (h1 : b < 1) : Git.AOk (arm g P b) := ⟨h0, h1, h.nn, h.one⟩
/-- Numbers as great as pairs make them, and not too many. -/
structure SmA (g : List Rat) (P : List (List Rat)) : Prop where
  nk : P.length ≤ 1000
  nn : ∀ i, i < P.length → (P[i]!).length ≤ 1000
  rp : ∀ i k, i < P.length → k < (P[i]!).length → RS (P[i]!)[k]! 1
  ng : g.length ≤ 1000
  rg : ∀ i, i < g.length → RS g[i]! 1
/-- A plain arm. -/
def PArmIs (w : World) (v : Value) (ps : List (Int × Int)) (pss : List (List (Int × Int))) : Prop := ∃ m l : Sl, v = aval m l ∧ PairsAre w m.val ps ∧ PRowsAre w l.val pss
theorem PArmIs.below {w w' : World} {v : Value} {pss : List (List (Int × Int))} {ps : List (Int × Int)} (h : PArmIs w v ps pss) (hb : Below w.heap.size w w') : PArmIs w' v ps pss := by
  obtain ⟨l, m, e, h1, h2⟩ := h
  exact ⟨l, m, e, h1.below hb, h2.below hb⟩
theorem smA_of {w : World} {v : Value} {pss : List (List (Int × Int))} {ps : List (Int × Int)} (h : PArmIs w v ps pss) (h1 : tot pss ≤ 30) (h2 : ps.length ≤ 5) : SmA (pqs ps) (pqss pss) := by
  obtain ⟨m, l, _, hq, hp⟩ := h
  have hlen : pss.length ≤ 30 := by unfold tot at h1; omega
  have hrow : ∀ i, i < pss.length → (pss[i]!).length ≤ 30 := fun i hi => by
    have := lsum_one pss hi
    unfold tot at h1; omega
  refine ⟨by rw [pqss_length]; omega, fun i hi => ?_, fun i k hi hk => ?_, by rw [pqs_length]; omega, pqs_RS hq⟩
  · rw [pqss_length] at hi
    rw [pqss_get hi, pqs_length]
    have := hrow i hi
    omega
  · rw [pqss_length] at hi
    rw [pqss_get hi] at hk ⊢
    obtain ⟨a, c, _, _, _, h3⟩ := hp
    obtain ⟨b, o, _, _, hc⟩ := h3 (by omega)
    obtain ⟨l', _, hl'⟩ := hc i hi
    exact pqs_RS hl' k hk

set_option maxHeartbeats 16000000 in
set_option maxRecDepth 100000 in
set_option linter.unusedSimpArgs false in
theorem acheck_any (v : Value) (gs : List Rat) (P : List (List Rat)) (w : World) (h : ArmIs w v gs P) (sm : SmA gs P) : Calls Tryz.prog 44 #[v] w (ErrPost w (acode gs P)) := by
  have hnk := sm.nk
  have hng := sm.ng
  have HSM := hide sm
  obtain ⟨m, l, rfl, hT, hS⟩ := h
  have hln := rows_len hS
  have hmn := law_len hT
  have X0 := ArmBox.new hT hS
  have b0 := alloc_below w (.cells #[.slice m.a m.n m.c, .slice l.a l.n l.c] 32)
  obtain ⟨W0, hW0⟩ : ∃ W, w.alloc (.cells #[.slice m.a m.n m.c, .slice l.a l.n l.c] 32) = W := ⟨_, rfl⟩
  obtain ⟨bx, hbx⟩ : ∃ b, w.heap.size = b := ⟨_, rfl⟩
  rw [hW0] at X0 b0
  rw [hbx] at X0
  have ⟨c0, c1⟩ := X0.cells _ (Below.refl _ _)
  have HX0 := hide X0
  have HB0 := hide b0
  obtain ⟨n, hn⟩ : ∃ n, P.length = n := ⟨_, rfl⟩
  have HN := hide hn
  rw [hn] at hln
  obtain ⟨k, hk⟩ : ∃ k, gs.length = k := ⟨_, rfl⟩
  have HK := hide hk
  rw [hk] at hmn
  clear hk
  rw [hmn] at c0
  rw [hln] at c1
  unfold aval
  rw [hmn, hln] at hW0 ⊢
  have HLN := hide hln
  have HMN := hide hmn
  clear hS hT X0 b0 hn hln hmn
  rw [unhide HN] at hnk
  rw [unhide HK] at hng
  clear sm
  go_enter Tryz.func44, Tryz.ntmps44
  by_cases hx : 1 ≤ k ∧ k ≤ 5
  rotate_left
  · have HE : Hid (acode gs P = 4) := by
      show acode gs P = 4
      unfold acode
      rw [if_neg (fun x => hx (by rw [← unhide HK]; exact x))]
    by_cases h1 : (k : Int) < 1
    · go_wp2
      go_ret
      exact ⟨by rw [unhide HE]; rfl, unhide HB0⟩
    · have h2 : (5 : Int) < (k : Int) := by omega
      go_wp2
      go_ret
      exact ⟨by rw [unhide HE]; rfl, unhide HB0⟩
  obtain ⟨hx1, hx2⟩ := hx
  have h1 : ¬ (k : Int) < 1 := by omega
  have h2 : ¬ (5 : Int) < (k : Int) := by omega
  by_cases hkn : n = k
  rotate_left
  · have e3 : ((n : Int) == (k : Int)) = false := by rw [beq_eq_false_iff_ne]; omega
    have HE : Hid (acode gs P = 3) := by
      show acode gs P = 3
      unfold acode
      rw [if_pos (by rw [unhide HK]; exact ⟨hx1, hx2⟩), if_neg (by rw [unhide HN, unhide HK]; exact hkn)]
    clear hkn
    go_wp2
    go_ret
    exact ⟨by rw [unhide HE]; rfl, unhide HB0⟩
  subst hkn
  have e3 : ((n : Int) == (n : Int)) = true := by rw [beq_iff_eq]
  have HE : Hid (acode gs P = rcd n P n) := by
    show acode gs P = _
    unfold acode
    rw [if_pos (by rw [unhide HK]; exact ⟨hx1, hx2⟩), if_pos (by rw [unhide HN, unhide HK]), unhide HK, unhide HN]
  go_wp2_with fail
  clear hW0 hbx c0 c1 e3
  go_loopw [26] (fun vi wr => ∃ i : Nat, vi = .int .i64 (i : Int) ∧ i ≤ n ∧ Below W0.heap.size W0 wr ∧ rcd n P i = 0) (fun vi _ => n - (intOf vi).toNat)
  case atStart => exact ⟨0, rfl, Nat.zero_le _, Below.refl _ _, rfl⟩
  case round =>
    obtain ⟨i, rfl, hi, hb, hz⟩ := hrel
    have HB := hide hb
    have HZ := hide hz
    by_cases hlt : i < n
    · have f1 : (i : Int) < (n : Int) := by omega
      have f0 : (0 : Int) ≤ (i : Int) := by omega
      have hlt' : i < P.length := by have := unhide HN; omega
      obtain ⟨bk, ok, m, hla, hbk, k0, hA⟩ := ((unhide HX0).2.2.below hb).at hlt'
      have HSH := hide (cshares_any m.val _ n wr hA (by omega) (fun u hu => (unhide HSM).rp i u hlt' hu) ((unhide HSM).nn i hlt'))
      have HLT := hide hlt'
      rw [hla]
      clear hb hz hA hlt'
      go_wp2_with fail
      refine (unhide HSH).mono ?_
      rintro e w4 ⟨rfl, hb4⟩
      have HB4 := hide (below_step (unhide HB) hb4)
      obtain ⟨z, hk⟩ : ∃ z, shc n P[i]! = z := ⟨_, rfl⟩
      rw [hk]
      have HKZ := hide hk
      clear hk hb4 k0 HSH
      by_cases hk0 : z = 0
      · subst hk0
        have e5 : errV 0 = .nilIface := rfl
        rw [e5]
        go_wp2_with fail
        refine ⟨⟨i + 1, by go_num, hlt, unhide HB4, ?_⟩, by simp [intOf]; omega⟩
        show (if rcd n P i = 0 then _ else _) = _
        rw [if_pos (unhide HZ)]; exact unhide HKZ
      · have e5 : errV z = .iface 76 (.int .i64 z) := by unfold errV; rw [if_neg hk0]
        rw [e5]
        have HE2 : Hid (acode gs P = z) := by
          show acode gs P = z
          rw [unhide HE]
          have := rcd_end (unhide HLT) (unhide HZ) (unhide HKZ) hk0
          rw [unhide HN] at this
          exact this
        have HE5 := hide e5
        clear hk0 e5
        go_wp2
        go_ret
        exact ⟨by rw [unhide HE2]; exact (congrArg Ending.returned (unhide HE5)).symm, below_step (unhide HB0) (unhide HB4)⟩
    · obtain rfl : i = n := by omega
      have f1 : ¬ (i : Int) < (i : Int) := by omega
      clear hb hz
      go_wp2
      go_ret
      exact ⟨by rw [unhide HE]; rw [unhide HZ]; rfl, below_step (unhide HB0) (unhide HB)⟩

end Go.Proofs.YtjlohghknejjoaaGreatDoor
