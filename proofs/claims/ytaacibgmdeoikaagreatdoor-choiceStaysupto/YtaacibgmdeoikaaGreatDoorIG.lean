/- foresightkeep's small, likes. -/
import Derived.Test.YtaacibgmdeoikaaGreatDoorI13
import Derived.Test.YtaacibgmdeoikaaGreatDoorIE
import Derived.Test.YtaacibgmdeoikaaGreatDoorF11
import Derived.Test.YtaacibgmdeoikaaGreatDoorK1
namespace Go.Proofs.YtaacibgmdeoikaaGreatDoor
open Go.RowKit Go.Sort Go.Shelf

/-- How many numbers: of a state's acts, of states, of a model. -/
def nsum (ks : List ((Int × Int) × List (Int × Int))) : Nat → Nat
  | 0 => 0
  | k + 1 => nsum ks k + (1 + ((ks[k]!).2).length)
def tsum (ps : List (List ((Int × Int) × List (Int × Int)))) : Nat → Nat
  | 0 => 0
  | i + 1 => tsum ps i + nsum ps[i]! (ps[i]!).length
def totM (ps : List (List ((Int × Int) × List (Int × Int)))) : Nat := ps.length + tsum ps ps.length
/-- What is of bulk at most 1048576. -/
structure SmB (ps : List (List ((Int × Int) × List (Int × Int)))) : Prop where
  n : ps.length ≤ 1048576
  a : ∀ i, i < ps.length → (ps[i]!).length ≤ 1048576
  x : ∀ i j, i < ps.length → j < (ps[i]!).length → (((ps[i]!)[j]!).2).length ≤ 1048576
theorem nsum_le {ks : List ((Int × Int) × List (Int × Int))} (h : ∀ j, j < ks.length → ((ks[j]!).2).length ≤ 1048576) : ∀ k, k ≤ ks.length → nsum ks k ≤ k * 1048577
  | 0, _ => Nat.zero_le _
  | k + 1, hk => by
    have a := nsum_le h k (by omega)
    have b := h k (by omega)
    show nsum ks k + (1 + _) ≤ _
    rw [Nat.succ_mul]; omega
theorem tsum_le {ps : List (List ((Int × Int) × List (Int × Int)))} (h : SmB ps) : ∀ i, i ≤ ps.length → tsum ps i ≤ i * 1099512676352
  | 0, _ => Nat.zero_le _
  | i + 1, hi => by
    have a := tsum_le h i (by omega)
    have b := nsum_le (fun j hj => h.x i j (by omega) hj) _ (Nat.le_refl (ps[i]!).length)
    have c : (ps[i]!).length * 1048577 ≤ 1048576 * 1048577 := Nat.mul_le_mul_right _ (h.a i (by omega))
    show tsum ps i + nsum _ _ ≤ _
    rw [Nat.succ_mul]; omega
theorem nsum_mono (ks : List ((Int × Int) × List (Int × Int))) : ∀ {a b : Nat}, a ≤ b → nsum ks a ≤ nsum ks b
  | a, 0, h => by obtain rfl : a = 0 := by omega
                  exact Nat.le_refl _
  | a, b + 1, h => by
    by_cases e : a = b + 1
    · rw [e]; exact Nat.le_refl _
    · have := nsum_mono ks (a := a) (b := b) (by omega)
      show nsum ks a ≤ nsum ks b + _
      omega
theorem tsum_mono (ps : List (List ((Int × Int) × List (Int × Int)))) : ∀ {a b : Nat}, a ≤ b → tsum ps a ≤ tsum ps b
  | a, 0, h => by obtain rfl : a = 0 := by omega
                  exact Nat.le_refl _
  | a, b + 1, h => by
    by_cases e : a = b + 1
    · rw [e]; exact Nat.le_refl _
    · have := tsum_mono ps (a := a) (b := b) (by omega)
      show tsum ps a ≤ tsum ps b + _
      omega
theorem nsum_ge (ks : List ((Int × Int) × List (Int × Int))) : ∀ k, k ≤ nsum ks k
  | 0 => Nat.zero_le _
  | k + 1 => by
    have := nsum_ge ks k
    show k + 1 ≤ nsum ks k + (1 + _)
    omega
theorem tsum_row (ps : List (List ((Int × Int) × List (Int × Int)))) {i : Nat} (h : i < ps.length) : nsum ps[i]! (ps[i]!).length ≤ tsum ps ps.length := by
  have := tsum_mono ps (a := i + 1) (b := ps.length) h
  have e : tsum ps (i + 1) = tsum ps i + nsum ps[i]! (ps[i]!).length := rfl
  omega
theorem nsum_one (ks : List ((Int × Int) × List (Int × Int))) {j : Nat} (h : j < ks.length) : ((ks[j]!).2).length ≤ nsum ks ks.length := by
  have := nsum_mono ks (a := j + 1) (b := ks.length) h
  have e : nsum ks (j + 1) = nsum ks j + (1 + ((ks[j]!).2).length) := rfl
  omega
theorem small_sm {ps : List (List ((Int × Int) × List (Int × Int)))} (h : totM ps ≤ 70) : SmPM ps := by
  unfold totM at h
  refine ⟨by omega, fun i hi => ?_, fun i j hi hj => ?_⟩
  · have a := tsum_row ps hi
    have b := nsum_ge ps[i]! (ps[i]!).length
    omega
  · have a := tsum_row ps hi
    have b := nsum_one ps[i]! hj
    omega
theorem pqs_get {l : List (Int × Int)} {t : Nat} (h : t < l.length) : (pqs l)[t]! = pq l[t]! := by simp [pqs, h]
/-- The model that comes of it is small. -/
theorem smM_of {ps : List (List ((Int × Int) × List (Int × Int)))} {x y : Int} {w : World} {v : Value} (h : PModelIs w v ps x y) (s : SmPM ps) : SmM (kOf ps) (pq (x, y)) := by
  obtain ⟨l, _, hP, hx, hy⟩ := h
  obtain ⟨a, c, _, _, _, h3⟩ := hP
  have cl : ∀ i, i < ps.length → ∃ l : Sl, ClsAre w l.val ps[i]! := fun i hi => by
    obtain ⟨b, o, _, _, hc⟩ := h3 (by omega)
    obtain ⟨l, _, r⟩ := hc i hi
    exact ⟨l, r⟩
  have len : ∀ i, i < ps.length → ((kOf ps)[i]!).length = (ps[i]!).length := fun i hi => by rw [kOf_get hi, csOf_length]
  have get : ∀ i j, i < ps.length → j < (ps[i]!).length → ((kOf ps)[i]!)[j]! = (pq ((ps[i]!)[j]!).1, pqs ((ps[i]!)[j]!).2) := fun i j hi hj => by rw [kOf_get hi, csOf_get hj]
  have pqs_length : ∀ l : List (Int × Int), (pqs l).length = l.length := fun l => by simp [pqs]
  refine ⟨pq_RS hx hy, by rw [kOf_length]; exact s.n, fun i hi => ?_, fun i j hi hj => ?_, fun i j hi hj => ?_, fun i j t hi hj ht => ?_⟩
  · rw [kOf_length] at hi
    rw [len i hi]; exact s.a i hi
  · rw [kOf_length] at hi
    rw [len i hi] at hj
    rw [get i j hi hj]
    show (pqs _).length ≤ 1000
    rw [pqs_length]; exact s.x i j hi hj
  · rw [kOf_length] at hi
    rw [len i hi] at hj
    rw [get i j hi hj]
    obtain ⟨l, _, _, _, _, _, h4, _⟩ := cl i hi
    exact pq_RS (h4 j hj).1 (h4 j hj).2
  · rw [kOf_length] at hi
    rw [len i hi] at hj
    rw [get i j hi hj] at ht ⊢
    have ht : t < (pqs ((ps[i]!)[j]!).2).length := ht
    rw [pqs_length] at ht
    obtain ⟨l, ac, cc, _, _, _, _, h5⟩ := cl i hi
    obtain ⟨b, o, _, _, hcs⟩ := h5 (by omega)
    obtain ⟨l2, _, hpl⟩ := hcs j hj
    obtain ⟨_, _, _, _, _, h6, _⟩ := hpl
    show RS (pqs ((ps[i]!)[j]!).2)[t]! 1
    rw [pqs_get ht]
    exact pq_RS (h6 t ht).1 (h6 t ht).2

set_option maxHeartbeats 16000000 in
set_option maxRecDepth 100000 in
set_option linter.unusedSimpArgs false in
theorem small_any (v : Value) (ps : List (List ((Int × Int) × List (Int × Int)))) (wx wy : Int) (w : World) (h : PModelIs w v ps wx wy) (sm : SmB ps) : Calls Tryz.prog 7 #[v] w (AskPost w (totM ps ≤ 70)) := by
  obtain ⟨lp, rfl, hP, hx, hy⟩ := h
  have hln := psts_len hP
  have HSM := hide sm
  have hsn := sm.n
  have b0 := alloc_below w (.cells #[.slice lp.a lp.n lp.c, .int .i64 wx, .int .i64 wy] 26)
  have N0 := heap_alloc_new w (.cells #[.slice lp.a lp.n lp.c, .int .i64 wx, .int .i64 wy] 26)
  have HP0 := hP.below b0
  obtain ⟨W0, hW0⟩ : ∃ W, w.alloc (.cells #[.slice lp.a lp.n lp.c, .int .i64 wx, .int .i64 wy] 26) = W := ⟨_, rfl⟩
  obtain ⟨gi, hgi⟩ : ∃ g, w.heap.size = g := ⟨_, rfl⟩
  rw [hW0] at b0 N0 HP0
  rw [hgi] at N0
  have q0 : W0.cell? ⟨gi, 0, none⟩ = some (.slice lp.a lp.n lp.c) := by simp [World.cell?, N0]
  obtain ⟨np, hnp⟩ : ∃ n, ps.length = n := ⟨_, rfl⟩
  rw [hnp] at hln hsn
  have HNP := hide hnp
  have HP := hide HP0
  have HB0 := hide b0
  unfold pmv
  rw [hln] at hW0 q0 ⊢
  clear hP sm hx hy b0 N0 HP0 hnp
  go_enter Tryz.func7, Tryz.ntmps7
  go_wp2_with fail
  clear hW0 hgi
  go_loopw [3, 4] (fun vn vi wr => ∃ (i x : Nat), vn = .int .i64 (x : Int) ∧ vi = .int .i64 (i : Int) ∧ i ≤ np ∧ x = np + tsum ps i ∧ wr = W0) (fun _ vi _ => np - (intOf vi).toNat)
  case atStart => exact ⟨0, np, rfl, rfl, Nat.zero_le _, rfl, rfl⟩
  case round =>
    obtain ⟨i, x, rfl, rfl, hi, hx, rfl⟩ := hrel
    have HX := hide hx
    have hxb : x ≤ 2000000000000000000 := by
      have a := tsum_le (unhide HSM) i (by rw [unhide HNP]; exact hi)
      have b : i * 1099512676352 ≤ 1048576 * 1099512676352 := Nat.mul_le_mul_right _ (by omega)
      omega
    by_cases hlt : i < np
    · have hltP : i < ps.length := by have := unhide HNP; omega
      obtain ⟨ap, cp, ep, _, _, h3⟩ := unhide HP
      obtain ⟨bp, op, rfl, hbp, hcp⟩ := h3 (by omega)
      have elp : lp.a = some ⟨bp, op, none⟩ := by injection ep
      obtain ⟨lr, k0, hcl⟩ := hcp i hltP
      have hcn := cls_len hcl
      have ha1 := (unhide HSM).a i hltP
      have HCLS := hide hcl
      have HLTP := hide hltP
      obtain ⟨nr, hnr⟩ : ∃ r, lr.n = r := ⟨_, rfl⟩
      rw [hnr] at hcn k0
      rw [← hcn] at ha1
      have HCN := hide hcn
      have e1 : (i : Int) < (np : Int) := by omega
      have e0 : (0 : Int) ≤ (i : Int) := by omega
      rw [elp] at q0 ⊢
      have HTI : Hid (∀ y, y = x + nsum ps[i]! nr → y = np + tsum ps (i + 1)) := fun y hy => by
        show y = np + (tsum ps i + nsum ps[i]! (ps[i]!).length)
        rw [← unhide HCN]
        have := unhide HX
        omega
      have HNB : Hid (∀ k, k ≤ nr → nsum ps[i]! k ≤ 1099512676352) := fun k hk => by
        have a := nsum_le (fun j hj => (unhide HSM).x i j (unhide HLTP) hj) k (by have := unhide HCN; omega)
        have b : k * 1048577 ≤ 1048576 * 1048577 := Nat.mul_le_mul_right _ (by omega)
        omega
      clear hx h3 hcp hcl ep elp hcn hnr hltP
      go_wp2_with fail
      go_loopw [3, 5] (fun vn vj wv => ∃ (j y : Nat), vn = .int .i64 (y : Int) ∧ vj = .int .i64 (j : Int) ∧ j ≤ nr ∧ y = x + nsum ps[i]! j ∧ wv = wr) (fun _ vj _ => nr - (intOf vj).toNat)
      case atStart => exact ⟨0, x, rfl, rfl, Nat.zero_le _, rfl, rfl⟩
      case round =>
        obtain ⟨j, y, rfl, rfl, hj, hy, rfl⟩ := hrel
        have HY := hide hy
        have hyb : y ≤ 3000000000000000000 := by
          have := unhide HNB j hj
          omega
        by_cases hltj : j < nr
        · have hltj' : j < (ps[i]!).length := by have := unhide HCN; omega
          obtain ⟨ac, cc', ec, _, _, h4, h3⟩ := unhide HCLS
          obtain ⟨b, o, rfl, hblt, hcs⟩ := h3 (by omega)
          have elr : lr.a = some ⟨b, o, none⟩ := by injection ec
          obtain ⟨l, ⟨_, _, k2⟩, hpl⟩ := hcs j hltj'
          have hpn := pairs_len hpl
          have hxn := (unhide HSM).x i j (unhide HLTP) hltj'
          obtain ⟨nl, hnl⟩ : ∃ r, l.n = r := ⟨_, rfl⟩
          rw [hnl] at hpn k2
          rw [← hpn] at hxn
          have f1 : (j : Int) < (nr : Int) := by omega
          have f0 : (0 : Int) ≤ (j : Int) := by omega
          have e5 : IntKind.i64.wrap (1 + (nl : Int)) = ((1 + nl : Nat) : Int) := by rw [IntKind.wrap_i64]; omega
          have e6 : IntKind.i64.wrap ((y : Int) + ((1 + nl : Nat) : Int)) = ((y + (1 + nl) : Nat) : Int) := by rw [IntKind.wrap_i64]; omega
          have HYN : Hid (y + (1 + nl) = x + nsum ps[i]! (j + 1)) := by
            show _ = x + (nsum ps[i]! j + (1 + ((((ps[i]!))[j]!).2).length))
            rw [← hpn]
            omega
          rw [elr] at k0
          clear hy h3 h4 hcs hpl hpn hnl ec elr
          go_wp2_with fail
          exact ⟨⟨j + 1, y + (1 + nl), rfl, by go_num, hltj, unhide HYN, by trivial⟩, by simp [intOf]; omega⟩
        · obtain rfl : j = nr := by omega
          have f1 : ¬ (j : Int) < (j : Int) := by omega
          clear hy
          go_wp2_with fail
          exact ⟨⟨i + 1, y, rfl, by go_num, hlt, unhide HTI y (unhide HY), by trivial⟩, by simp [intOf]; omega⟩
    · obtain rfl : i = np := by omega
      have e1 : ¬ (i : Int) < (i : Int) := by omega
      have ht : totM ps = x := by unfold totM; rw [unhide HNP]; exact hx.symm
      by_cases hw : x ≤ 70
      · have e6 : (x : Int) ≤ 70 := by omega
        have HW : Hid (totM ps ≤ 70) := by show _ ≤ _; omega
        clear hx hw ht
        go_wp2
        go_ret
        exact ⟨Or.inl ⟨unhide HW, rfl⟩, unhide HB0⟩
      · have e6 : ¬ (x : Int) ≤ 70 := by omega
        have HW : Hid (¬ totM ps ≤ 70) := by show ¬ _; omega
        clear hx hw ht
        go_wp2
        go_ret
        exact ⟨Or.inr ⟨unhide HW, rfl⟩, unhide HB0⟩

set_option maxHeartbeats 16000000 in
set_option maxRecDepth 100000 in
set_option linter.unusedSimpArgs false in
theorem likes_any (v vx : Value) (qs : List Rat) (w : World) (h : LawIs w v qs) (hx : LawIs w vx qs) (J : Nat) (hJ : J ≤ KK) (hq : ∀ j, j < qs.length → RS qs[j]! J) (htab : Tab w) :
    Calls Tryz.prog 13 #[v, vx] w fun e w' => e = .returned (.bool true) ∧ Below w.heap.size w w' := by
  obtain ⟨a, c, rfl, h1, h2, h3⟩ := h
  obtain ⟨ax, cx, rfl, x1, x2, x3⟩ := hx
  have H3 := hide h3
  have X3 := hide x3
  have HQ := hide hq
  have HTB := hide htab
  clear h3 x3 hq htab
  have e9 : ((qs.length : Int) == (qs.length : Int)) = true := by rw [beq_iff_eq]
  go_enter Tryz.func13, Tryz.ntmps13
  go_wp2_with fail
  clear e9
  go_loopw [5] (fun vi wr => ∃ i : Nat, vi = .int .i64 (i : Int) ∧ i ≤ qs.length ∧ Below w.heap.size w wr) (fun vi _ => qs.length - (intOf vi).toNat)
  case atStart => exact ⟨0, rfl, Nat.zero_le _, Below.refl _ _⟩
  case round =>
    obtain ⟨i, rfl, hi, hb⟩ := hrel
    have HB := hide hb
    by_cases hlt : i < qs.length
    · have e1 : (i : Int) < (qs.length : Int) := by omega
      have e0 : (0 : Int) ≤ (i : Int) := by omega
      obtain ⟨bv, ov, rfl, hvlt, hcv⟩ := unhide X3 (by omega)
      obtain ⟨xs_, xp1, xp2, xn1, xd1, xn2, xd2, xk0, xk1, xk2, xr⟩ := hcv i hlt
      obtain ⟨tv, rfl, rfl, rfl, rfl, rfl, rfl, rfl⟩ : ∃ t : Tri, xs_ = t.s ∧ xp1 = t.a1 ∧ xp2 = t.a2 ∧ xn1 = t.n1 ∧ xd1 = t.c1 ∧ xn2 = t.n2 ∧ xd2 = t.c2 := ⟨⟨xs_, xp1, xp2, xn1, xd1, xn2, xd2⟩, rfl, rfl, rfl, rfl, rfl, rfl, rfl⟩
      obtain ⟨b, o, rfl, hblt, hcs⟩ := unhide H3 (by omega)
      obtain ⟨s', p1, p2, m1, d1, m2, d2, k0, k1, k2, rr⟩ := hcs i hlt
      obtain ⟨tx, rfl, rfl, rfl, rfl, rfl, rfl, rfl⟩ : ∃ t : Tri, s' = t.s ∧ p1 = t.a1 ∧ p2 = t.a2 ∧ m1 = t.n1 ∧ d1 = t.c1 ∧ m2 = t.n2 ∧ d2 = t.c2 := ⟨⟨s', p1, p2, m1, d1, m2, d2⟩, rfl, rfl, rfl, rfl, rfl, rfl, rfl⟩
      have HCC : Hid (∀ W, Below wr.heap.size wr W → (fun w' : World => (w'.cell? ⟨b, o + i * 3, none⟩ = some (.bool tx.s) ∧ w'.cell? ⟨b, o + i * 3 + 1, none⟩ = some (.slice tx.a1 tx.n1 tx.c1) ∧ w'.cell? ⟨b, o + i * 3 + 2, none⟩ = some (.slice tx.a2 tx.n2 tx.c2)) ∧ w'.cell? ⟨bv, ov + i * 3, none⟩ = some (.bool tv.s) ∧ w'.cell? ⟨bv, ov + i * 3 + 1, none⟩ = some (.slice tv.a1 tv.n1 tv.c1) ∧ w'.cell? ⟨bv, ov + i * 3 + 2, none⟩ = some (.slice tv.a2 tv.n2 tv.c2)) W) := fun W hW => by
        have bc := below_step hb hW
        refine ⟨?_, ?_⟩
        · rw [bc.cell (p := ⟨b, o + i * 3, none⟩) hblt, bc.cell (p := ⟨b, o + i * 3 + 1, none⟩) hblt, bc.cell (p := ⟨b, o + i * 3 + 2, none⟩) hblt]; exact ⟨k0, k1, k2⟩
        · rw [bc.cell (p := ⟨bv, ov + i * 3, none⟩) hvlt, bc.cell (p := ⟨bv, ov + i * 3 + 1, none⟩) hvlt, bc.cell (p := ⟨bv, ov + i * 3 + 2, none⟩) hvlt]; exact ⟨xk0, xk1, xk2⟩
      have HLK : Hid (∀ W, Below wr.heap.size wr W → Calls Tryz.prog 23 #[.agg #[.bool tx.s, .slice tx.a1 tx.n1 tx.c1, .slice tx.a2 tx.n2 tx.c2], .agg #[.bool tv.s, .slice tv.a1 tv.n1 tv.c1, .slice tv.a2 tv.n2 tv.c2]] W fun e w' => e = .returned (.bool true) ∧ Below W.heap.size W w') := fun W hW => like_any tx.val tv.val _ W (rr.below (below_step hb hW)) (xr.below (below_step hb hW)) J (unhide HQ i hlt) hJ (tab_below (unhide HTB) (below_step hb hW))
      clear hb hcv hcs rr xr k0 k1 k2 xk0 xk1 xk2
      go_wp2_with fail
      refine wp_region_hold (fun w' : World => (w'.cell? ⟨b, o + i * 3, none⟩ = some (.bool tx.s) ∧ w'.cell? ⟨b, o + i * 3 + 1, none⟩ = some (.slice tx.a1 tx.n1 tx.c1) ∧ w'.cell? ⟨b, o + i * 3 + 2, none⟩ = some (.slice tx.a2 tx.n2 tx.c2)) ∧ w'.cell? ⟨bv, ov + i * 3, none⟩ = some (.bool tv.s) ∧ w'.cell? ⟨bv, ov + i * 3 + 1, none⟩ = some (.slice tv.a1 tv.n1 tv.c1) ∧ w'.cell? ⟨bv, ov + i * 3 + 2, none⟩ = some (.slice tv.a2 tv.n2 tv.c2)) (by kernel_rfl) ?_
      have bd0 : Below wr.heap.size wr wr.drew := (Below.refl _ _).drew
      have hC0 : (fun w' : World => (w'.cell? ⟨b, o + i * 3, none⟩ = some (.bool tx.s) ∧ w'.cell? ⟨b, o + i * 3 + 1, none⟩ = some (.slice tx.a1 tx.n1 tx.c1) ∧ w'.cell? ⟨b, o + i * 3 + 2, none⟩ = some (.slice tx.a2 tx.n2 tx.c2)) ∧ w'.cell? ⟨bv, ov + i * 3, none⟩ = some (.bool tv.s) ∧ w'.cell? ⟨bv, ov + i * 3 + 1, none⟩ = some (.slice tv.a1 tv.n1 tv.c1) ∧ w'.cell? ⟨bv, ov + i * 3 + 2, none⟩ = some (.slice tv.a2 tv.n2 tv.c2)) wr.drew := unhide HCC _ bd0
      refine wpHold_take (i := 0) (v := ?_) rfl (by kernel_rfl) (by kernel_rfl) (by kernel_rfl) (fun _ _ _ h => h) (Or.inl ⟨by rfl, ?_⟩) hC0 ?_
      rotate_left
      · intro w hSw; clear hSw; go_simp; (try with_reducible rfl)
      (try simp only [List.getElem_toArray, List.getElem_cons_succ, List.getElem_cons_zero])
      (try simp only [Act.put, List.setIfInBounds_toArray, List.set_cons_zero, List.set_cons_succ])
      refine wpHold_take (i := 1) (v := ?_) rfl (by kernel_rfl) (by kernel_rfl) (by kernel_rfl) (fun _ _ _ h => h) (Or.inl ⟨by rfl, ?_⟩) hC0 ?_
      rotate_left
      · intro w hSw; clear hSw; go_simp; (try with_reducible rfl)
      (try simp only [List.getElem_toArray, List.getElem_cons_succ, List.getElem_cons_zero])
      (try simp only [Act.put, List.setIfInBounds_toArray, List.set_cons_zero, List.set_cons_succ])
      refine wpHold_take (i := 2) (v := ?_) rfl (by kernel_rfl) (by kernel_rfl) (by kernel_rfl) (fun _ _ _ h => h) (Or.inl ⟨by rfl, ?_⟩) hC0 ?_
      rotate_left
      · intro w hSw; clear hSw; go_simp; (try with_reducible rfl)
      (try simp only [List.getElem_toArray, List.getElem_cons_succ, List.getElem_cons_zero])
      (try simp only [Act.put, List.setIfInBounds_toArray, List.set_cons_zero, List.set_cons_succ])
      refine wpHold_take (i := 3) (v := ?_) rfl (by kernel_rfl) (by kernel_rfl) (by kernel_rfl) (fun _ _ _ h => h) (Or.inl ⟨by rfl, ?_⟩) hC0 ?_
      rotate_left
      · intro w hSw; (try dsimp only at hSw); obtain ⟨⟨z0, z1, z2⟩, z3, z4, z5⟩ := hSw; go_simp; (try with_reducible rfl)
      (try simp only [List.getElem_toArray, List.getElem_cons_succ, List.getElem_cons_zero])
      (try simp only [Act.put, List.setIfInBounds_toArray, List.set_cons_zero, List.set_cons_succ])
      refine wpHold_take (i := 4) (v := ?_) rfl (by kernel_rfl) (by kernel_rfl) (by kernel_rfl) (fun _ _ _ h => h) (Or.inl ⟨by rfl, ?_⟩) hC0 ?_
      rotate_left
      · intro w hSw; clear hSw; go_simp; (try with_reducible rfl)
      (try simp only [List.getElem_toArray, List.getElem_cons_succ, List.getElem_cons_zero])
      (try simp only [Act.put, List.setIfInBounds_toArray, List.set_cons_zero, List.set_cons_succ])
      refine wpHold_take (i := 5) (v := ?_) rfl (by kernel_rfl) (by kernel_rfl) (by kernel_rfl) (fun _ _ _ h => h) (Or.inl ⟨by rfl, ?_⟩) hC0 ?_
      rotate_left
      · intro w hSw; clear hSw; go_simp; (try with_reducible rfl)
      (try simp only [List.getElem_toArray, List.getElem_cons_succ, List.getElem_cons_zero])
      (try simp only [Act.put, List.setIfInBounds_toArray, List.set_cons_zero, List.set_cons_succ])
      refine wpHold_take (i := 6) (v := ?_) rfl (by kernel_rfl) (by kernel_rfl) (by kernel_rfl) (fun _ _ _ h => h) (Or.inl ⟨by rfl, ?_⟩) hC0 ?_
      rotate_left
      · intro w hSw; clear hSw; go_simp; (try with_reducible rfl)
      (try simp only [List.getElem_toArray, List.getElem_cons_succ, List.getElem_cons_zero])
      (try simp only [Act.put, List.setIfInBounds_toArray, List.set_cons_zero, List.set_cons_succ])
      refine wpHold_take (i := 7) (v := ?_) rfl (by kernel_rfl) (by kernel_rfl) (by kernel_rfl) (fun _ _ _ h => h) (Or.inl ⟨by rfl, ?_⟩) hC0 ?_
      rotate_left
      · intro w hSw; (try dsimp only at hSw); obtain ⟨⟨z0, z1, z2⟩, z3, z4, z5⟩ := hSw; go_simp; (try with_reducible rfl)
      (try simp only [List.getElem_toArray, List.getElem_cons_succ, List.getElem_cons_zero])
      (try simp only [Act.put, List.setIfInBounds_toArray, List.set_cons_zero, List.set_cons_succ])
      refine wpHold_one (k := 8) (by kernel_rfl) rfl (fun K hK => ?_)
      (try simp only [List.getElem_toArray, List.getElem_cons_succ, List.getElem_cons_zero])
      go_simp
      refine (unhide HLK _ bd0).mono ?_
      rintro e xw_1 ⟨rfl, hb_1⟩
      have cc_1 := below_step bd0 hb_1
      have hC_1 : (fun w' : World => (w'.cell? ⟨b, o + i * 3, none⟩ = some (.bool tx.s) ∧ w'.cell? ⟨b, o + i * 3 + 1, none⟩ = some (.slice tx.a1 tx.n1 tx.c1) ∧ w'.cell? ⟨b, o + i * 3 + 2, none⟩ = some (.slice tx.a2 tx.n2 tx.c2)) ∧ w'.cell? ⟨bv, ov + i * 3, none⟩ = some (.bool tv.s) ∧ w'.cell? ⟨bv, ov + i * 3 + 1, none⟩ = some (.slice tv.a1 tv.n1 tv.c1) ∧ w'.cell? ⟨bv, ov + i * 3 + 2, none⟩ = some (.slice tv.a2 tv.n2 tv.c2)) xw_1 := unhide HCC _ cc_1
      refine hK.out _ _ hC_1 ?_
      clear hK K
      (try simp only [Act.put, List.setIfInBounds_toArray, List.set_cons_zero, List.set_cons_succ])
      refine wpHold_take (i := 9) (v := ?_) rfl (by kernel_rfl) (by kernel_rfl) (by kernel_rfl) (fun _ _ _ h => h) (Or.inl ⟨by rfl, ?_⟩) hC_1 ?_
      rotate_left
      · intro w hSw; clear hSw; go_simp; (try with_reducible rfl)
      (try simp only [List.getElem_toArray, List.getElem_cons_succ, List.getElem_cons_zero])
      (try simp only [Act.put, List.setIfInBounds_toArray, List.set_cons_zero, List.set_cons_succ])
      refine wpHold_done (by kernel_rfl) ?_ _
      have HB3 := hide (below_step (unhide HB) cc_1)
      clear hC0 hC_1 cc_1 bd0 hb_1 HCC HLK
      go_wp2_with fail
      exact ⟨⟨i + 1, by go_num, hlt, unhide HB3⟩, by simp [intOf]; omega⟩
    · obtain rfl : i = qs.length := by omega
      have e1 : ¬ (qs.length : Int) < (qs.length : Int) := by omega
      clear hb
      go_wp2
      go_ret
      exact ⟨rfl, unhide HB⟩

end Go.Proofs.YtaacibgmdeoikaaGreatDoor
/- foresightkeep's chosen. -/
namespace Go.Proofs.YtaacibgmdeoikaaGreatDoor
open Go.RowKit Go.Sort Go.Shelf

theorem chosen_chk : chk [((1 : Int) : Rat)] = 0 := by
  unfold chk
  have b : ¬ ∃ j, j < [((1 : Int) : Rat)].length ∧ ([((1 : Int) : Rat)][j]!).num < 0 := fun ⟨j, hj, h⟩ => by
    obtain rfl : j = 0 := by have : j < 1 := hj; omega
    exact absurd h (by decide)
  have c : qsum [((1 : Int) : Rat)] [((1 : Int) : Rat)].length = 1 := by
    show (0 : Rat) + ((1 : Int) : Rat) = 1
    decide +kernel
  rw [if_neg (by decide), if_neg b, if_pos c]
theorem chosen_code : mcode [[(((1 : Int) : Rat), [((1 : Int) : Rat)]), (((2 : Int) : Rat), [((1 : Int) : Rat)])]] (Rat.divInt 1 2) = 0 := by
  have h1 : ¬ ((Rat.divInt 1 2) < 0 ∨ 1 ≤ (Rat.divInt 1 2)) := by decide
  unfold mcode
  rw [if_pos ⟨by decide, by decide⟩, if_neg h1]
  show (if scd 1 [[(((1 : Int) : Rat), [((1 : Int) : Rat)]), (((2 : Int) : Rat), [((1 : Int) : Rat)])]] 0 = 0 then stc 1 [(((1 : Int) : Rat), [((1 : Int) : Rat)]), (((2 : Int) : Rat), [((1 : Int) : Rat)])] else _) = 0
  have hz : scd 1 [[(((1 : Int) : Rat), [((1 : Int) : Rat)]), (((2 : Int) : Rat), [((1 : Int) : Rat)])]] 0 = 0 := rfl
  rw [if_pos hz]
  unfold stc
  rw [if_pos ⟨by decide, by decide⟩]
  show (if (if acd 1 _ 0 = 0 then shc 1 [((1 : Int) : Rat)] else _) = 0 then shc 1 [((1 : Int) : Rat)] else _) = 0
  have h2 : shc 1 [((1 : Int) : Rat)] = 0 := by
    unfold shc
    have h0 : [((1 : Int) : Rat)].length = 1 := rfl
    rw [if_pos h0, chosen_chk]
  have h3 : acd 1 [(((1 : Int) : Rat), [((1 : Int) : Rat)]), (((2 : Int) : Rat), [((1 : Int) : Rat)])] 0 = 0 := rfl
  rw [if_pos h3, h2, if_pos rfl]
theorem chosen_sm : SmM [[(((1 : Int) : Rat), [((1 : Int) : Rat)]), (((2 : Int) : Rat), [((1 : Int) : Rat)])]] (Rat.divInt 1 2) := by
  refine ⟨⟨by decide, by decide⟩, by decide, fun s hs => ?_, fun s a hs ha => ?_, fun s a hs ha => ?_, fun s a t hs ha ht => ?_⟩
  · obtain rfl : s = 0 := by have : s < 1 := hs; omega
    decide
  · obtain rfl : s = 0 := by have : s < 1 := hs; omega
    have ha : a < 2 := ha
    match a, ha with
    | 0, _ => decide
    | 1, _ => decide
  · obtain rfl : s = 0 := by have : s < 1 := hs; omega
    have ha : a < 2 := ha
    match a, ha with
    | 0, _ => exact ⟨by decide, by decide⟩
    | 1, _ => exact ⟨by decide, by decide⟩
  · obtain rfl : s = 0 := by have : s < 1 := hs; omega
    have ha : a < 2 := ha
    match a, ha with
    | 0, _ =>
      obtain rfl : t = 0 := by have : t < 1 := ht; omega
      exact ⟨by decide, by decide⟩
    | 1, _ =>
      obtain rfl : t = 0 := by have : t < 1 := ht; omega
      exact ⟨by decide, by decide⟩
theorem chosen_fix {x : Nat → Rat} (h : Mdp.T (mdl [[(((1 : Int) : Rat), [((1 : Int) : Rat)]), (((2 : Int) : Rat), [((1 : Int) : Rat)])]] (Rat.divInt 1 2)) x 0 = x 0) : x 0 = 4 ∧ Mdp.bst (mdl [[(((1 : Int) : Rat), [((1 : Int) : Rat)]), (((2 : Int) : Rat), [((1 : Int) : Rat)])]] (Rat.divInt 1 2)) x 0 = 1 := by
  have q : ∀ a, Mdp.qv (mdl [[(((1 : Int) : Rat), [((1 : Int) : Rat)]), (((2 : Int) : Rat), [((1 : Int) : Rat)])]] (Rat.divInt 1 2)) x 0 a = (mdl [[(((1 : Int) : Rat), [((1 : Int) : Rat)]), (((2 : Int) : Rat), [((1 : Int) : Rat)])]] (Rat.divInt 1 2)).g 0 a + 1 / 2 * (0 + (mdl [[(((1 : Int) : Rat), [((1 : Int) : Rat)]), (((2 : Int) : Rat), [((1 : Int) : Rat)])]] (Rat.divInt 1 2)).p 0 a 0 * x 0) := fun a => by
    have e : (Rat.divInt 1 2) = (1 : Rat) / 2 := by decide +kernel
    unfold Mdp.qv
    show _ + (Rat.divInt 1 2) * _ = _
    rw [e]
    rfl
  have q0 : Mdp.qv (mdl [[(((1 : Int) : Rat), [((1 : Int) : Rat)]), (((2 : Int) : Rat), [((1 : Int) : Rat)])]] (Rat.divInt 1 2)) x 0 0 = 1 + 1 / 2 * (0 + 1 * x 0) := q 0
  have q1 : Mdp.qv (mdl [[(((1 : Int) : Rat), [((1 : Int) : Rat)]), (((2 : Int) : Rat), [((1 : Int) : Rat)])]] (Rat.divInt 1 2)) x 0 1 = 2 + 1 / 2 * (0 + 1 * x 0) := q 1
  have hb : Mdp.bst (mdl [[(((1 : Int) : Rat), [((1 : Int) : Rat)]), (((2 : Int) : Rat), [((1 : Int) : Rat)])]] (Rat.divInt 1 2)) x 0 = 1 := by
    show (if Mdp.gt (Mdp.qv (mdl [[(((1 : Int) : Rat), [((1 : Int) : Rat)]), (((2 : Int) : Rat), [((1 : Int) : Rat)])]] (Rat.divInt 1 2)) x 0 1) (Mdp.qv (mdl [[(((1 : Int) : Rat), [((1 : Int) : Rat)]), (((2 : Int) : Rat), [((1 : Int) : Rat)])]] (Rat.divInt 1 2)) x 0 (Mdp.am Mdp.gt (Mdp.qv (mdl [[(((1 : Int) : Rat), [((1 : Int) : Rat)]), (((2 : Int) : Rat), [((1 : Int) : Rat)])]] (Rat.divInt 1 2)) x 0) 1)) = true then 1 else _) = 1
    have e : Mdp.am Mdp.gt (Mdp.qv (mdl [[(((1 : Int) : Rat), [((1 : Int) : Rat)]), (((2 : Int) : Rat), [((1 : Int) : Rat)])]] (Rat.divInt 1 2)) x 0) 1 = 0 := by
      show (if _ then 0 else 0) = 0
      split <;> rfl
    rw [e, if_pos]
    unfold Mdp.gt
    rw [q0, q1]
    exact decide_eq_true (by grind)
  refine ⟨?_, hb⟩
  unfold Mdp.T at h
  rw [hb, q1] at h
  grind
theorem chosen_text : qtext 4 = [52] := by decide +kernel

set_option maxHeartbeats 16000000 in
set_option maxRecDepth 100000 in
set_option linter.unusedSimpArgs false in
theorem chosen_any (w : World) (htab : Tab w) : Calls Tryz.prog 10 #[] w fun e w' => e = .returned (.bool true) ∧ Below w.heap.size w w' := by
  have KKe : KK = 1099511627776 := rfl
  have HTB := hide htab
  clear htab
  go_enter Tryz.func10, Tryz.ntmps10
  go_wp2_with fail
  refine (of_any 1 2 (by decide) (by decide) (by decide) (by decide) (by decide) w).mono ?_
  rintro e w1 ⟨v1, rfl, hv1, hb1⟩
  obtain ⟨th, rfl, rh⟩ := tri_of hv1
  simp only [Tri.val]
  have b1 := alloc_below w1 (.cells #[.bool th.s, .slice th.a1 th.n1 th.c1, .slice th.a2 th.n2 th.c2] 33)
  have X1 := BoxIs.new rh
  obtain ⟨W1, hW1⟩ : ∃ W, w1.alloc (.cells #[.bool th.s, .slice th.a1 th.n1 th.c1, .slice th.a2 th.n2 th.c2] 33) = W := ⟨_, rfl⟩
  obtain ⟨g1, hg1⟩ : ∃ g, w1.heap.size = g := ⟨_, rfl⟩
  rw [hW1] at b1 X1
  rw [hg1] at X1
  have HX1 := hide X1
  have HB1 := hide (below_step hb1 b1)
  clear hv1 hb1 rh b1 X1
  go_wp2_with fail
  clear hW1 hg1
  refine (whole_any 1 (by decide) (by decide) W1).mono ?_
  rintro e w2 ⟨v2, rfl, hv2, hb2⟩
  obtain ⟨tw, rfl, ro⟩ := tri_of hv2
  simp only [Tri.val]
  have b2 := alloc_below w2 (.cells #[.bool tw.s, .slice tw.a1 tw.n1 tw.c1, .slice tw.a2 tw.n2 tw.c2] 33)
  have n2 := heap_alloc_new w2 (.cells #[.bool tw.s, .slice tw.a1 tw.n1 tw.c1, .slice tw.a2 tw.n2 tw.c2] 33)
  have r2 := ro.below b2
  obtain ⟨W2, hW2⟩ : ∃ W, w2.alloc (.cells #[.bool tw.s, .slice tw.a1 tw.n1 tw.c1, .slice tw.a2 tw.n2 tw.c2] 33) = W := ⟨_, rfl⟩
  obtain ⟨g2, hg2⟩ : ∃ g, w2.heap.size = g := ⟨_, rfl⟩
  rw [hW2] at b2 n2 r2
  rw [hg2] at n2
  have HLO : Hid (LawIs W2 (.slice (some ⟨g2, 0, none⟩) 1 1) [((1 : Int) : Rat)]) := by
    refine ⟨_, 1, rfl, Nat.le_refl _, by decide, fun _ => ⟨g2, 0, rfl, (Array.getElem?_eq_some_iff.1 n2).1, fun j hj => ?_⟩⟩
    match j, hj with
    | 0, _ => exact ⟨tw.s, tw.a1, tw.a2, tw.n1, tw.c1, tw.n2, tw.c2, by simp [World.cell?, n2], by simp [World.cell?, n2], by simp [World.cell?, n2], r2⟩
  have X2 := (unhide HX1).keep (below_step hb2 b2)
  have HCC : Hid (∀ W, Below W2.heap.size W2 W → (fun w' : World => w'.cell? ⟨g1, 0, none⟩ = some (.bool th.s) ∧ w'.cell? ⟨g1, 1, none⟩ = some (.slice th.a1 th.n1 th.c1) ∧ w'.cell? ⟨g1, 2, none⟩ = some (.slice th.a2 th.n2 th.c2)) W) := fun W hW => X2.cells W hW
  have HTH := hide X2.2
  have HB2 := hide (below_step (unhide HB1) (below_step hb2 b2))
  clear hv2 hb2 ro b2 n2 r2 X2 HX1 HB1
  go_wp2_with fail
  clear hW2 hg2
  refine wp_region_hold (fun w' : World => w'.cell? ⟨g1, 0, none⟩ = some (.bool th.s) ∧ w'.cell? ⟨g1, 1, none⟩ = some (.slice th.a1 th.n1 th.c1) ∧ w'.cell? ⟨g1, 2, none⟩ = some (.slice th.a2 th.n2 th.c2)) (by kernel_rfl) ?_
  have bd0 : Below W2.heap.size W2 W2.drew := (Below.refl _ _).drew
  have hC0 : (fun w' : World => w'.cell? ⟨g1, 0, none⟩ = some (.bool th.s) ∧ w'.cell? ⟨g1, 1, none⟩ = some (.slice th.a1 th.n1 th.c1) ∧ w'.cell? ⟨g1, 2, none⟩ = some (.slice th.a2 th.n2 th.c2)) W2.drew := unhide HCC _ bd0
  refine wpHold_take (i := 0) (v := ?_) rfl (by kernel_rfl) (by kernel_rfl) (by kernel_rfl) (fun _ _ _ h => h) (Or.inl ⟨by rfl, ?_⟩) hC0 ?_
  rotate_left
  · intro w hSw; (try dsimp only at hSw); obtain ⟨z0, z1, z2⟩ := hSw; go_simp; (try with_reducible rfl)
  (try simp only [List.getElem_toArray, List.getElem_cons_succ, List.getElem_cons_zero])
  (try simp only [Act.put, List.setIfInBounds_toArray, List.set_cons_zero, List.set_cons_succ])
  refine wpHold_take (i := 2) (v := ?_) rfl (by kernel_rfl) (by kernel_rfl) (by kernel_rfl) (fun _ _ _ h => h) (Or.inl ⟨by rfl, ?_⟩) hC0 ?_
  rotate_left
  · intro w hSw; clear hSw; go_simp; (try with_reducible rfl)
  (try simp only [List.getElem_toArray, List.getElem_cons_succ, List.getElem_cons_zero])
  (try simp only [Act.put, List.setIfInBounds_toArray, List.set_cons_zero, List.set_cons_succ])
  refine wpHold_take (i := 5) (v := ?_) rfl (by kernel_rfl) (by kernel_rfl) (by kernel_rfl) (fun _ _ _ h => h) (Or.inl ⟨by rfl, ?_⟩) hC0 ?_
  rotate_left
  · intro w hSw; clear hSw; go_simp; (try with_reducible rfl)
  (try simp only [List.getElem_toArray, List.getElem_cons_succ, List.getElem_cons_zero])
  (try simp only [Act.put, List.setIfInBounds_toArray, List.set_cons_zero, List.set_cons_succ])
  refine wpHold_one (k := 1) (by kernel_rfl) rfl (fun K hK => ?_)
  (try simp only [List.getElem_toArray, List.getElem_cons_succ, List.getElem_cons_zero])
  go_simp
  refine (whole_any 1 (by decide) (by decide) _).mono ?_
  rintro e xw_1 ⟨xv_1, rfl, hv_1, hb_1⟩
  have cc_1 := below_step bd0 hb_1
  have hC_1 : (fun w' : World => w'.cell? ⟨g1, 0, none⟩ = some (.bool th.s) ∧ w'.cell? ⟨g1, 1, none⟩ = some (.slice th.a1 th.n1 th.c1) ∧ w'.cell? ⟨g1, 2, none⟩ = some (.slice th.a2 th.n2 th.c2)) xw_1 := unhide HCC _ cc_1
  refine hK.out _ _ hC_1 ?_
  clear hK K
  (try simp only [Act.put, List.setIfInBounds_toArray, List.set_cons_zero, List.set_cons_succ])
  obtain ⟨ta, rfl, ra⟩ := tri_of hv_1
  simp only [Tri.val]
  refine wpHold_take (i := 3) (v := ?_) rfl (by kernel_rfl) (by kernel_rfl) (by kernel_rfl) (fun _ _ _ h => h) (Or.inl ⟨by rfl, ?_⟩) hC_1 ?_
  rotate_left
  · intro w hSw; clear hSw; go_simp; (try with_reducible rfl)
  (try simp only [List.getElem_toArray, List.getElem_cons_succ, List.getElem_cons_zero])
  (try simp only [Act.put, List.setIfInBounds_toArray, List.set_cons_zero, List.set_cons_succ])
  refine wpHold_one (k := 4) (by kernel_rfl) rfl (fun K hK => ?_)
  (try simp only [List.getElem_toArray, List.getElem_cons_succ, List.getElem_cons_zero])
  go_simp
  refine (whole_any 2 (by decide) (by decide) _).mono ?_
  rintro e xw_2 ⟨xv_2, rfl, hv_2, hb_2⟩
  have cc_2 := below_step cc_1 hb_2
  have hC_2 : (fun w' : World => w'.cell? ⟨g1, 0, none⟩ = some (.bool th.s) ∧ w'.cell? ⟨g1, 1, none⟩ = some (.slice th.a1 th.n1 th.c1) ∧ w'.cell? ⟨g1, 2, none⟩ = some (.slice th.a2 th.n2 th.c2)) xw_2 := unhide HCC _ cc_2
  refine hK.out _ _ hC_2 ?_
  clear hK K
  (try simp only [Act.put, List.setIfInBounds_toArray, List.set_cons_zero, List.set_cons_succ])
  obtain ⟨tb, rfl, rb⟩ := tri_of hv_2
  simp only [Tri.val]
  refine wpHold_take (i := 6) (v := ?_) rfl (by kernel_rfl) (by kernel_rfl) (by kernel_rfl) (fun _ _ _ h => h) (Or.inl ⟨by rfl, ?_⟩) hC_2 ?_
  rotate_left
  · intro w hSw; clear hSw; go_simp; (try with_reducible rfl)
  (try simp only [List.getElem_toArray, List.getElem_cons_succ, List.getElem_cons_zero])
  (try simp only [Act.put, List.setIfInBounds_toArray, List.set_cons_zero, List.set_cons_succ])
  have bA := alloc_below xw_2 (.cells #[.bool ta.s, .slice ta.a1 ta.n1 ta.c1, .slice ta.a2 ta.n2 ta.c2, .slice (some ⟨g2, 0, none⟩) 1 1, .bool tb.s, .slice tb.a1 tb.n1 tb.c1, .slice tb.a2 tb.n2 tb.c2, .slice (some ⟨g2, 0, none⟩) 1 1] 62)
  have nA := heap_alloc_new xw_2 (.cells #[.bool ta.s, .slice ta.a1 ta.n1 ta.c1, .slice ta.a2 ta.n2 ta.c2, .slice (some ⟨g2, 0, none⟩) 1 1, .bool tb.s, .slice tb.a1 tb.n1 tb.c1, .slice tb.a2 tb.n2 tb.c2, .slice (some ⟨g2, 0, none⟩) 1 1] 62)
  have cc_3 := below_step cc_2 bA
  have hC_3 : (fun w' : World => w'.cell? ⟨g1, 0, none⟩ = some (.bool th.s) ∧ w'.cell? ⟨g1, 1, none⟩ = some (.slice th.a1 th.n1 th.c1) ∧ w'.cell? ⟨g1, 2, none⟩ = some (.slice th.a2 th.n2 th.c2)) (xw_2.alloc (.cells #[.bool ta.s, .slice ta.a1 ta.n1 ta.c1, .slice ta.a2 ta.n2 ta.c2, .slice (some ⟨g2, 0, none⟩) 1 1, .bool tb.s, .slice tb.a1 tb.n1 tb.c1, .slice tb.a2 tb.n2 tb.c2, .slice (some ⟨g2, 0, none⟩) 1 1] 62)) := unhide HCC _ cc_3
  refine wpHold_one (k := 7) (by kernel_rfl) rfl (fun K hK => ?_)
  (try simp only [List.getElem_toArray, List.getElem_cons_succ, List.getElem_cons_zero])
  go_simp
  refine hK.out _ _ hC_3 ?_
  clear hK K
  (try simp only [Act.put, List.setIfInBounds_toArray, List.set_cons_zero, List.set_cons_succ])
  obtain ⟨W3, hW3⟩ : ∃ W, xw_2.alloc (.cells #[.bool ta.s, .slice ta.a1 ta.n1 ta.c1, .slice ta.a2 ta.n2 ta.c2, .slice (some ⟨g2, 0, none⟩) 1 1, .bool tb.s, .slice tb.a1 tb.n1 tb.c1, .slice tb.a2 tb.n2 tb.c2, .slice (some ⟨g2, 0, none⟩) 1 1] 62) = W := ⟨_, rfl⟩
  obtain ⟨g3, hg3⟩ : ∃ g, xw_2.heap.size = g := ⟨_, rfl⟩
  simp only [hW3, hg3]
  rw [hW3] at bA nA cc_3 hC_3
  rw [hg3] at nA
  have bB := alloc_below W3 (.cells #[.slice (some ⟨g3, 0, none⟩) 2 2] 63)
  have nB := heap_alloc_new W3 (.cells #[.slice (some ⟨g3, 0, none⟩) 2 2] 63)
  have cc_4 := below_step cc_3 bB
  have hC_4 : (fun w' : World => w'.cell? ⟨g1, 0, none⟩ = some (.bool th.s) ∧ w'.cell? ⟨g1, 1, none⟩ = some (.slice th.a1 th.n1 th.c1) ∧ w'.cell? ⟨g1, 2, none⟩ = some (.slice th.a2 th.n2 th.c2)) (W3.alloc (.cells #[.slice (some ⟨g3, 0, none⟩) 2 2] 63)) := unhide HCC _ cc_4
  refine wpHold_one (k := 8) (by kernel_rfl) rfl (fun K hK => ?_)
  (try simp only [List.getElem_toArray, List.getElem_cons_succ, List.getElem_cons_zero])
  go_simp
  refine hK.out _ _ hC_4 ?_
  clear hK K
  (try simp only [Act.put, List.setIfInBounds_toArray, List.set_cons_zero, List.set_cons_succ])
  obtain ⟨W4, hW4⟩ : ∃ W, W3.alloc (.cells #[.slice (some ⟨g3, 0, none⟩) 2 2] 63) = W := ⟨_, rfl⟩
  obtain ⟨g4, hg4⟩ : ∃ g, W3.heap.size = g := ⟨_, rfl⟩
  simp only [hW4, hg4]
  rw [hW4] at bB nB cc_4 hC_4
  rw [hg4] at nB
  have nA4 := heap_kept nA bB
  have ra4 := ((ra.below hb_2).below bA).below bB
  have rb4 := (rb.below bA).below bB
  have hone4 := (unhide HLO).below cc_4
  have hth4 := (unhide HTH).below cc_4
  have hact : ActsAre W4 (.slice (some ⟨g3, 0, none⟩) 2 2) [(((1 : Int) : Rat), [((1 : Int) : Rat)]), (((2 : Int) : Rat), [((1 : Int) : Rat)])] := by
    refine ⟨_, 2, rfl, Nat.le_refl _, by decide, fun _ => ⟨g3, 0, rfl, (Array.getElem?_eq_some_iff.1 nA4).1, fun j hj => ?_⟩⟩
    match j, hj with
    | 0, _ => exact ⟨ta, (some ⟨g2, 0, none⟩, 1, 1), by simp [World.cell?, nA4], ra4, hone4⟩
    | 1, _ => exact ⟨tb, (some ⟨g2, 0, none⟩, 1, 1), by simp [World.cell?, nA4], rb4, hone4⟩
  have hmod : ModelIs W4 (mval (some ⟨g4, 0, none⟩, 1, 1) th) [[(((1 : Int) : Rat), [((1 : Int) : Rat)]), (((2 : Int) : Rat), [((1 : Int) : Rat)])]] (Rat.divInt 1 2) := by
    refine ⟨_, _, rfl, ⟨_, 1, rfl, Nat.le_refl _, by decide, fun _ => ⟨g4, 0, rfl, (Array.getElem?_eq_some_iff.1 nB).1, fun j hj => ?_⟩⟩, hth4⟩
    match j, hj with
    | 0, _ => exact ⟨(some ⟨g3, 0, none⟩, 2, 2), by simp [World.cell?, nB], hact⟩
  have HBE := hide (Best_any _ [[(((1 : Int) : Rat), [((1 : Int) : Rat)]), (((2 : Int) : Rat), [((1 : Int) : Rat)])]] (Rat.divInt 1 2) W4 hmod chosen_sm)
  unfold mval at HBE
  clear hW3 hg3 hW4 hg4 nA nB bA bB nA4 ra4 rb4 hone4 hth4 hact hmod ra rb hv_1 hv_2
  refine wpHold_take (i := 9) (v := ?_) rfl (by kernel_rfl) (by kernel_rfl) (by kernel_rfl) (fun _ _ _ h => h) (Or.inl ⟨by rfl, ?_⟩) hC_4 ?_
  rotate_left
  · intro w hSw; clear hSw; go_simp; (try with_reducible rfl)
  (try simp only [List.getElem_toArray, List.getElem_cons_succ, List.getElem_cons_zero])
  (try simp only [Act.put, List.setIfInBounds_toArray, List.set_cons_zero, List.set_cons_succ])
  refine wpHold_one (k := 10) (by kernel_rfl) rfl (fun K hK => ?_)
  (try simp only [List.getElem_toArray, List.getElem_cons_succ, List.getElem_cons_zero])
  go_simp
  refine (unhide HBE).mono ?_
  rintro e w5 (⟨gm, v5, G5, x, rfl, hv5, hO5, hfx, hr5, hb5⟩ | ⟨gn, _⟩)
  rotate_left
  · exact absurd chosen_code gn
  have cc_5 := below_step cc_4 hb5
  have hC_5 : (fun w' : World => w'.cell? ⟨g1, 0, none⟩ = some (.bool th.s) ∧ w'.cell? ⟨g1, 1, none⟩ = some (.slice th.a1 th.n1 th.c1) ∧ w'.cell? ⟨g1, 2, none⟩ = some (.slice th.a2 th.n2 th.c2)) w5 := unhide HCC _ cc_5
  refine hK.out _ _ hC_5 ?_
  clear hK K
  (try simp only [Act.put, List.setIfInBounds_toArray, List.set_cons_zero, List.set_cons_succ])
  have HV5 := hide hv5
  obtain ⟨a5, c5, rfl, l1, l2, l3⟩ := hv5
  have ⟨hx4, hb1⟩ := chosen_fix (hfx 0 (by decide))
  obtain ⟨b5, o5, rfl, hb5l, hc5⟩ := l3 (by rw [row_length]; decide)
  obtain ⟨xs_, xp1, xp2, xn1, xd1, xn2, xd2, xk0, xk1, xk2, xr⟩ := hc5 0 (by rw [row_length]; decide)
  obtain ⟨tv, rfl, rfl, rfl, rfl, rfl, rfl, rfl⟩ : ∃ t : Tri, xs_ = t.s ∧ xp1 = t.a1 ∧ xp2 = t.a2 ∧ xn1 = t.n1 ∧ xd1 = t.c1 ∧ xn2 = t.n2 ∧ xd2 = t.c2 := ⟨⟨xs_, xp1, xp2, xn1, xd1, xn2, xd2⟩, rfl, rfl, rfl, rfl, rfl, rfl, rfl⟩
  have xr4 : RatIs w5 tv.val 4 := by rw [← hx4]; exact xr
  have xk0 : w5.cell? ⟨b5, o5, none⟩ = some (.bool tv.s) := xk0
  have xk1 : w5.cell? ⟨b5, o5 + 1, none⟩ = some (.slice tv.a1 tv.n1 tv.c1) := by rw [show o5 + 1 = o5 + 0 * 3 + 1 by omega]; exact xk1
  have xk2 : w5.cell? ⟨b5, o5 + 2, none⟩ = some (.slice tv.a2 tv.n2 tv.c2) := by rw [show o5 + 2 = o5 + 0 * 3 + 2 by omega]; exact xk2
  have ac : w5.cell? ⟨G5, 0, none⟩ = some (.int .i64 1) := by
    rw [hO5.cell (by decide), hb1]; rfl
  have HTX := hide (textR_any tv.val 4 w5 xr4 1 ⟨by decide, by decide⟩ (by rw [KKe]; omega) (tab_below (unhide HTB) (below_step (unhide HB2) cc_5)))
  rw [chosen_text] at HTX
  have HB5 := hide (below_step (unhide HB2) cc_5)
  have e9 : (row x ([[(((1 : Int) : Rat), [((1 : Int) : Rat)]), (((2 : Int) : Rat), [((1 : Int) : Rat)])]]).length).length = 1 := row_length _ _
  have e8 : ([[(((1 : Int) : Rat), [((1 : Int) : Rat)]), (((2 : Int) : Rat), [((1 : Int) : Rat)])]] : List (List (Rat × List Rat))).length = 1 := rfl
  rw [e9, e8]
  refine wpHold_take (i := 11) (v := ?_) rfl (by kernel_rfl) (by kernel_rfl) (by kernel_rfl) (fun _ _ _ h => h) (Or.inl ⟨by rfl, ?_⟩) hC_5 ?_
  rotate_left
  · intro w hSw; clear hSw; go_simp; (try with_reducible rfl)
  (try simp only [List.getElem_toArray, List.getElem_cons_succ, List.getElem_cons_zero])
  (try simp only [Act.put, List.setIfInBounds_toArray, List.set_cons_zero, List.set_cons_succ])
  refine wpHold_take (i := 12) (v := ?_) rfl (by kernel_rfl) (by kernel_rfl) (by kernel_rfl) (fun _ _ _ h => h) (Or.inl ⟨by rfl, ?_⟩) hC_5 ?_
  rotate_left
  · intro w hSw; clear hSw; go_simp; (try with_reducible rfl)
  (try simp only [List.getElem_toArray, List.getElem_cons_succ, List.getElem_cons_zero])
  (try simp only [Act.put, List.setIfInBounds_toArray, List.set_cons_zero, List.set_cons_succ])
  refine wpHold_take (i := 13) (v := ?_) rfl (by kernel_rfl) (by kernel_rfl) (by kernel_rfl) (fun _ _ _ h => h) (Or.inl ⟨by rfl, ?_⟩) hC_5 ?_
  rotate_left
  · intro w hSw; clear hSw; go_simp; (try with_reducible rfl)
  (try simp only [List.getElem_toArray, List.getElem_cons_succ, List.getElem_cons_zero])
  (try simp only [Act.put, List.setIfInBounds_toArray, List.set_cons_zero, List.set_cons_succ])
  refine wpHold_take (i := 14) (v := ?_) rfl (by kernel_rfl) (by kernel_rfl) (by kernel_rfl) (fun _ _ _ h => h) (Or.inl ⟨by rfl, ?_⟩) hC_5 ?_
  rotate_left
  · intro w hSw; clear hSw; go_simp; (try with_reducible rfl)
  (try simp only [List.getElem_toArray, List.getElem_cons_succ, List.getElem_cons_zero])
  (try simp only [Act.put, List.setIfInBounds_toArray, List.set_cons_zero, List.set_cons_succ])
  refine wpHold_take (i := 15) (v := ?_) rfl (by kernel_rfl) (by kernel_rfl) (by kernel_rfl) (fun _ _ _ h => h) (Or.inl ⟨by rfl, ?_⟩) hC_5 ?_
  rotate_left
  · intro w hSw; clear hSw; go_simp; (try with_reducible rfl)
  (try simp only [List.getElem_toArray, List.getElem_cons_succ, List.getElem_cons_zero])
  (try simp only [Act.put, List.setIfInBounds_toArray, List.set_cons_zero, List.set_cons_succ])
  refine wpHold_take (i := 16) (v := ?_) rfl (by kernel_rfl) (by kernel_rfl) (by kernel_rfl) (fun _ _ _ h => h) (Or.inl ⟨by rfl, ?_⟩) hC_5 ?_
  rotate_left
  · intro w hSw; clear hSw; go_simp; (try with_reducible rfl)
  (try simp only [List.getElem_toArray, List.getElem_cons_succ, List.getElem_cons_zero])
  (try simp only [Act.put, List.setIfInBounds_toArray, List.set_cons_zero, List.set_cons_succ])
  refine wpHold_take (i := 17) (v := ?_) rfl (by kernel_rfl) (by kernel_rfl) (by kernel_rfl) (fun _ _ _ h => h) (Or.inl ⟨by rfl, ?_⟩) hC_5 ?_
  rotate_left
  · intro w hSw; clear hSw; go_simp; (try with_reducible rfl)
  (try simp only [List.getElem_toArray, List.getElem_cons_succ, List.getElem_cons_zero])
  (try simp only [Act.put, List.setIfInBounds_toArray, List.set_cons_zero, List.set_cons_succ])
  refine wpHold_done (by kernel_rfl) ?_ _
  clear hC0 hC_1 hC_2 hC_3 hC_4 hC_5 cc_1 cc_2 cc_3 cc_4 cc_5 bd0 hb_1 hb_2 hb5 HCC HBE xr xr4 hc5 l3 hO5 hfx hr5 gm hx4 hb1 e9 e8 HV5
  go_wp2_with fail
  refine (unhide HTX).mono ?_
  rintro e w6 ⟨rfl, hb6⟩
  have HB6 := hide (below_step (unhide HB5) hb6)
  clear hb6 xk0 xk1 xk2 ac
  go_wp2
  go_ret
  exact ⟨rfl, unhide HB6⟩
end Go.Proofs.YtaacibgmdeoikaaGreatDoor
/- What the laws of choice share. -/
namespace Go.Proofs.YtaacibgmdeoikaaGreatDoor
open Go.RowKit Go.Sort Go.Shelf

/-- What stays: the model's box, and what it says. -/
structure ChAt (W : World) (gc np : Nat) (lm : Sl) (tm : Tri) (K : List (List (Rat × List Rat))) (b : Rat) : Prop where
  box : W.heap[gc]? = some (.cells #[.slice lm.a np lm.c, .bool tm.s, .slice tm.a1 tm.n1 tm.c1, .slice tm.a2 tm.n2 tm.c2] 35)
  mod : ModelIs W (.agg #[.slice lm.a np lm.c, .bool tm.s, .slice tm.a1 tm.n1 tm.c1, .slice tm.a2 tm.n2 tm.c2]) K b
theorem ChAt.keep {W W' : World} {gc np : Nat} {lm : Sl} {tm : Tri} {K : List (List (Rat × List Rat))} {b : Rat} (h : ChAt W gc np lm tm K b) (hb : Below W.heap.size W W') : ChAt W' gc np lm tm K b := ⟨heap_kept h.box hb, h.mod.below hb⟩
theorem ChAt.cells {W : World} {gc np : Nat} {lm : Sl} {tm : Tri} {K : List (List (Rat × List Rat))} {b : Rat} (h : ChAt W gc np lm tm K b) : W.cell? ⟨gc, 0, none⟩ = some (.slice lm.a np lm.c) ∧ W.cell? ⟨gc, 1, none⟩ = some (.bool tm.s) ∧ W.cell? ⟨gc, 2, none⟩ = some (.slice tm.a1 tm.n1 tm.c1) ∧ W.cell? ⟨gc, 3, none⟩ = some (.slice tm.a2 tm.n2 tm.c2) := by
  have h' := h.box
  simp [World.cell?, h']
theorem ChAt.new {w : World} {v : Value} {K : List (List (Rat × List Rat))} {b : Rat} {np : Nat} (h : ModelIs w v K b) (hn : K.length = np) : ∃ (lm : Sl) (tm : Tri), v = .agg #[.slice lm.a np lm.c, .bool tm.s, .slice tm.a1 tm.n1 tm.c1, .slice tm.a2 tm.n2 tm.c2] ∧ ChAt (w.alloc (.cells #[.slice lm.a np lm.c, .bool tm.s, .slice tm.a1 tm.n1 tm.c1, .slice tm.a2 tm.n2 tm.c2] 35)) w.heap.size np lm tm K b := by
  obtain ⟨l, t, e, h1, h2⟩ := id h
  have hl := states_len h1
  rw [hn] at hl
  unfold mval at e
  rw [hl] at e
  refine ⟨l, t, e, heap_alloc_new w _, ?_⟩
  rw [← e]
  exact h.below (alloc_below w _)
/-- The best acts, as a row that came back. -/
theorem bst_I64 {K : List (List (Rat × List Rat))} {b : Rat} (g : GoodM K b) (x : Nat → Rat) {s : Nat} (hs : s < K.length) : I64 ((Mdp.bst (mdl K b) x s : Nat) : Int) := by
  have h1 := Mdp.bst_plan g.ok x s hs
  have h1 : Mdp.bst (mdl K b) x s < (K[s]!).length := h1
  have h2 := g.a8 s hs
  exact ⟨by omega, by omega⟩
theorem bst_InA {K : List (List (Rat × List Rat))} {b : Rat} (g : GoodM K b) (x : Nat → Rat) : InA K (fun s => ((Mdp.bst (mdl K b) x s : Nat) : Int)) K.length := fun s hs => by
  have h1 := Mdp.bst_plan g.ok x s hs
  have h1 : Mdp.bst (mdl K b) x s < (K[s]!).length := h1
  show 0 ≤ ((Mdp.bst (mdl K b) x s : Nat) : Int) ∧ ((Mdp.bst (mdl K b) x s : Nat) : Int) < _
  omega

theorem acd_good {n : Nat} {ks : List (Rat × List Rat)} : ∀ {m : Nat}, (∀ j, j < m → shc n (ks[j]!).2 = 0) → acd n ks m = 0
  | 0, _ => rfl
  | m + 1, h => by
    show (if acd n ks m = 0 then _ else _) = 0
    rw [if_pos (acd_good (fun j hj => h j (by omega)))]
    exact h m (by omega)
theorem scd_good {n : Nat} {K : List (List (Rat × List Rat))} : ∀ {m : Nat}, (∀ j, j < m → stc n K[j]! = 0) → scd n K m = 0
  | 0, _ => rfl
  | m + 1, h => by
    show (if scd n K m = 0 then _ else _) = 0
    rw [if_pos (scd_good (fun j hj => h j (by omega)))]
    exact h m (by omega)
theorem good_code {K : List (List (Rat × List Rat))} {b : Rat} (g : GoodM K b) : mcode K b = 0 := by
  unfold mcode
  have hb : ¬ (b < 0 ∨ 1 ≤ b) := fun h => by
    have h0 : 0 ≤ b := g.ok.b0
    have h1 : b < 1 := g.ok.b1
    rcases h with h | h
    · exact absurd h0 (Rat.not_le.2 h)
    · exact absurd h1 (Rat.not_lt.2 h)
  rw [if_pos ⟨g.n1, g.n8⟩, if_neg hb]
  refine scd_good (fun s hs => ?_)
  unfold stc
  rw [if_pos ⟨g.a1 s hs, g.a8 s hs⟩]
  refine acd_good (fun a ha => ?_)
  unfold shc
  have hl := g.nx s a hs ha
  have hn1 := g.n1
  have hn8 := g.n8
  rw [if_pos hl]
  unfold chk
  have hp : ¬ ∃ j, j < (((K[s]!)[a]!).2).length ∧ ((((K[s]!)[a]!).2)[j]!).num < 0 := fun ⟨j, hj, h⟩ => by
    have : 0 ≤ (((K[s]!)[a]!).2)[j]! := g.ok.p0 s a j hs ha (by rw [hl] at hj; exact hj)
    have := Rat.num_nonneg.2 this
    omega
  have hs1 : qsum ((K[s]!)[a]!).2 (((K[s]!)[a]!).2).length = 1 := by
    rw [hl, qsum_ps]; exact g.ok.p1 s a hs ha
  rw [if_neg (by rw [hl]; omega), if_neg hp, if_pos hs1]
/-- A small model has at most seven states. -/
theorem small_seven {ps : List (List ((Int × Int) × List (Int × Int)))} {np : Nat} {x y : Int} (hn : ps.length = np) (h : totM ps ≤ 70) (g : GoodM (kOf ps) (pq (x, y))) : np ≤ 7 := by
  have hK : (kOf ps).length = np := by rw [kOf_length]; exact hn
  have each : ∀ i, i < np → 1 + np ≤ nsum ps[i]! (ps[i]!).length := fun i hi => by
    have hiP : i < ps.length := by omega
    have hiK : i < (kOf ps).length := by omega
    have h1 := g.a1 i hiK
    have h2 := g.nx i 0 hiK (by omega)
    rw [kOf_get hiP] at h1 h2
    rw [csOf_length] at h1
    rw [csOf_get (by omega)] at h2
    have h2 : (pqs ((ps[i]!)[0]!).2).length = (kOf ps).length := h2
    rw [pqs_length, hK] at h2
    have h3 := nsum_mono ps[i]! (a := 1) (b := (ps[i]!).length) h1
    have e : nsum ps[i]! 1 = 0 + (1 + ((((ps[i]!)[0]!)).2).length) := rfl
    omega
  have all : ∀ i, i ≤ np → i * (1 + np) ≤ tsum ps i := fun i => by
    induction i with
    | zero => intro _; simp [tsum]
    | succ i ih =>
      intro hi
      have a := ih (by omega)
      have b := each i (by omega)
      show (i + 1) * (1 + np) ≤ tsum ps i + nsum ps[i]! (ps[i]!).length
      rw [Nat.succ_mul]; omega
  have ht := all np (Nat.le_refl _)
  unfold totM at h
  rw [hn] at h
  have h8 := g.n8
  rw [hK] at h8
  by_cases e : np = 8
  · subst e; omega
  · omega

end Go.Proofs.YtaacibgmdeoikaaGreatDoor
