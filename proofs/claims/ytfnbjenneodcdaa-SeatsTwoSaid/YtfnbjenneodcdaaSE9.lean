/- seats.Littlewood. -/
import Derived.Test.YtfnbjenneodcdaaSE6
namespace Go.Proofs.Ytfnbjenneodcdaa
open Go.RowKit Go.Sort Go.Shelf

/-- 2 calls one behind the other, and a box. -/
structure Nj2 (P1 P2 : World → Value → Prop) (w0 : World) (c : Nat) (l : Bool) (w : World) (s1 s2 s3 : Value) : Prop where
  bl : Below w0.heap.size w0 w
  r1 : 1 ≤ c → P1 w s1
  r2 : 2 ≤ c → P2 w s2
  al : l = true → ∃ b, s3 = .pointer (some ⟨b, 0, none⟩) ∧ BoxIs w b zTri 0 ∧ w0.heap.size ≤ b
/-- Littlewood's number. -/
structure LwIs (qs : List Rat) (c : Rat) (n : Nat) : Prop where
  lt : n < qs.length
  lo : ∀ m, m < n → c < 1 - Bth.ps (fun i => qs[i]!) (m + 1)
  hi : ¬ c < 1 - Bth.ps (fun i => qs[i]!) (n + 1)
def LwPost (w : World) (qs : List Rat) (c : Rat) (e : Ending) (w' : World) : Prop := ∃ n : Nat, e = .returned (.tuple #[.int .i64 (n : Int), .nilIface]) ∧ LwIs qs c n ∧ Below w.heap.size w w'
theorem fare_single {w : World} {g : Nat} {p : Int} {a : Option Addr} {n c : Nat} {qs : List Rat} (h : w.heap[g]? = some (.cells #[.int .i64 p, .slice a n c] 39)) (hl : LawIs w (Sl.val (a, n, c)) qs) : FaresAre w (.slice (some ⟨g, 0, none⟩) 1 1) [(p, qs)] := by
  refine ⟨_, _, rfl, Nat.le_refl _, by decide, fun _ => ⟨g, 0, rfl, (Array.getElem?_eq_some_iff.1 h).1, fun j hj => ?_⟩⟩
  obtain rfl : j = 0 := by simpa using hj
  exact ⟨p, (a, n, c), ⟨by simp [World.cell?, h], by simp [World.cell?, h]⟩, rfl, hl⟩
theorem smF_single {p : Int} {qs : List Rat} (h8 : qs.length ≤ 8) (r : ∀ i, i < qs.length → RS qs[i]! 1) : SmF [(p, qs)] where
  n := by show 1 ≤ 4; omega
  k j hj := by
    obtain rfl : j = 0 := by simpa using hj
    exact h8
  r j i hj hi := by
    obtain rfl : j = 0 := by simpa using hj
    exact r i hi

set_option maxHeartbeats 16000000 in
set_option maxRecDepth 100000 in
set_option linter.unusedSimpArgs false in
theorem littlewood_any (p c_ : Int) (a : Option Addr) (c ln : Nat) (qs : List Rat) (w : World) (h : LawIs w (Sl.val (a, ln, c)) qs) (hl : qs.length = ln) (h8 : ln ≤ 8) (r : ∀ i, i < ln → RS qs[i]! 1) (hz : fcode [(p, qs)] = 0) (hc1 : 1 ≤ c_) (hc2 : c_ ≤ p) :
    Calls Try.prog 7 #[.agg #[.int .i64 p, .slice a ln c], .int .i64 c_] w (LwPost w qs (Rat.divInt c_ p)) := by
  have g := goodF_of hz
  have hp1 : 1 ≤ p := g.p1 0 Nat.zero_lt_one
  have hp2 : p ≤ 100000 := g.p2 0 Nat.zero_lt_one
  have hlaw : Sea.Law (fun i => qs[i]!) qs.length := g.law 0 Nat.zero_lt_one
  have hk1 : 1 ≤ qs.length := g.k1 0 Nat.zero_lt_one
  have HONE : Hid (Bth.ps (fun i => qs[i]!) ln = 1) := by show _ = _; rw [← hl]; exact hlaw.one
  have HKL := hide hl
  have HRQ := hide r
  have HRS : Hid (∀ k, k ≤ ln → RS (1 - Bth.ps (fun i => qs[i]!) k) 20) := fun k hk => by
    have h1 := ps_RS (a := fun i => qs[i]!) (J := 1) (K := ln) (fun i hi => r i hi) k hk
    have h2 := Nat.mul_le_mul_right (1 + 1) (Nat.le_trans hk h8)
    exact (RS_one.sub' (h1.mono (show k * (1 + 1) + 1 ≤ 17 by omega))).mono (by omega)
  obtain ⟨sh, hsh⟩ : ∃ s, Rat.divInt c_ p = s := ⟨_, rfl⟩
  have HSH0 : Hid (0 < sh) := by
    show 0 < sh
    rw [← hsh, Rat.divInt_eq_div]
    exact Bth.div_ps (by have : (0 : Rat) = ((0 : Int) : Rat) := rfl; rw [this, Rat.intCast_lt_intCast]; omega) (by have : (0 : Rat) = ((0 : Int) : Rat) := rfl; rw [this, Rat.intCast_lt_intCast]; omega)
  have HRH : Hid (RS sh 20) := by
    show RS sh 20
    rw [← hsh, Rat.divInt_eq_div]
    exact (RS.div' (price_RS (p := c_) (by omega) (by omega)) (price_RS hp1 hp2) (by show p ≠ 0; omega)).mono (by omega)
  have HOF := hide (of_any c_ p (by omega) (by omega) (by omega) (by omega) (by omega))
  rw [hsh] at HOF ⊢
  have HJ20 : Hid (20 + 20 + 1 ≤ KK) := by show _ ≤ _; rw [KKe]; omega
  have HK20 : Hid (20 ≤ KK) := by show _ ≤ _; rw [KKe]; omega
  have HR1 : Hid (RS (((1 : Int)) : Rat) 20) := RS.mono RS_one (by omega)
  have b0 := alloc_below w (.cells #[.int .i64 p, .slice a ln c] 39)
  have n0 := heap_alloc_new w (.cells #[.int .i64 p, .slice a ln c] 39)
  obtain ⟨W0, hW0⟩ : ∃ W, w.alloc (.cells #[.int .i64 p, .slice a ln c] 39) = W := ⟨_, rfl⟩
  obtain ⟨fb, hfb⟩ : ∃ b, w.heap.size = b := ⟨_, rfl⟩
  rw [hW0] at b0 n0
  rw [hfb] at n0
  have hbl := (Array.getElem?_eq_some_iff.1 n0).1
  have HN0 := hide n0
  have HB0 := hide b0
  obtain ⟨ba, oa, ea, hba, Hba_⟩ := (h.below b0).open hl (by omega)
  have ea : a = some ⟨ba, oa, none⟩ := ea
  have HV := hide (h.below b0)
  have Hba := hide Hba_
  have HLB := hide hba
  subst ea
  have HCF : Hid (∀ W, Below W0.heap.size W0 W → W.cell? ⟨fb, 1, none⟩ = some (.slice (some ⟨ba, oa, none⟩) ln c)) := fun W hW => by
    have h2 : W.heap[fb]? = _ := (hW.block fb hbl).trans (unhide HN0)
    simp [World.cell?, h2]
  have HCF0 : Hid (∀ W, Below W0.heap.size W0 W → W.cell? ⟨fb, 0, none⟩ = some (.int .i64 p)) := fun W hW => by
    have h2 : W.heap[fb]? = _ := (hW.block fb hbl).trans (unhide HN0)
    simp [World.cell?, h2]
  have b1 := alloc_below W0 (.cells #[.int .i64 p, .slice (some ⟨ba, oa, none⟩) ln c] 39)
  have n1 := heap_alloc_new W0 (.cells #[.int .i64 p, .slice (some ⟨ba, oa, none⟩) ln c] 39)
  have c0 := unhide HCF0 _ (Below.refl _ _)
  have c1 := unhide HCF _ (Below.refl _ _)
  obtain ⟨W1, hW1⟩ : ∃ W, W0.alloc (.cells #[.int .i64 p, .slice (some ⟨ba, oa, none⟩) ln c] 39) = W := ⟨_, rfl⟩
  obtain ⟨g1, hg1⟩ : ∃ b, W0.heap.size = b := ⟨_, rfl⟩
  rw [hW1] at b1 n1
  rw [hg1] at n1
  have HB1 := hide b1
  have HCK := hide (fcheck_any (.slice (some ⟨g1, 0, none⟩) 1 1) [(p, qs)] W1 (fare_single n1 ((unhide HV).below b1)) (smF_single (by omega) (fun i hi => r i (by omega))))
  rw [hz] at HCK
  have f1 : 0 < ln := by omega
  have f2 : (0 : Int) < (ln : Int) := by omega
  have f3 : ¬ c_ < 1 := by omega
  have f4 : ¬ p < c_ := by omega
  clear h hl r hz g hlaw hk1 hsh b0 n0 hbl hba Hba_ b1 n1 hp1 hp2 hc1 hc2
  go_enter Try.func7, Try.ntmps7
  go_wp2_with fail
  clear hW0 hfb hW1 hg1 c0 c1
  refine (unhide HCK).mono ?_
  rintro e w2 ⟨rfl, hb2⟩
  have e5 : errV 0 = .nilIface := rfl
  rw [e5]
  have HB2 := hide (below_step (unhide HB1) hb2)
  have c0 := unhide HCF0 _ (unhide HB2)
  have HOF2 := hide (unhide HOF w2)
  clear hb2 e5 HCK HOF
  go_wp2_with fail
  clear c0
  refine (unhide HOF2).mono ?_
  rintro e w3 ⟨v3, rfl, hv3, hb3⟩
  obtain ⟨tH, rfl, hr3⟩ := tri_of hv3
  simp only [Tri.val]
  have b3 := below_step (below_step (unhide HB2) hb3) (alloc_below w3 (.cells #[.bool tH.s, .slice tH.a1 tH.n1 tH.c1, .slice tH.a2 tH.n2 tH.c2] 48))
  have X3 := BoxIs.new hr3
  obtain ⟨W3, hW3⟩ : ∃ W, w3.alloc (.cells #[.bool tH.s, .slice tH.a1 tH.n1 tH.c1, .slice tH.a2 tH.n2 tH.c2] 48) = W := ⟨_, rfl⟩
  obtain ⟨bH, hbH⟩ : ∃ b, w3.heap.size = b := ⟨_, rfl⟩
  rw [hW3] at b3 X3
  rw [hbH] at X3
  have HB3 := hide b3
  have HXH := hide X3
  obtain ⟨ta, q0, q1, q2, ra⟩ := unhide Hba 0 f1
  simp only [Nat.zero_mul, Nat.add_zero] at q0 q1 q2
  have HTA := hide (ra.below b3)
  have HRA := hide ((unhide HRQ 0 f1).mono (show 1 ≤ 20 by omega))
  have HCC : Hid (∀ W, Below W3.heap.size W3 W → (fun w' : World => w'.cell? ⟨fb, 1, none⟩ = some (.slice (some ⟨ba, oa, none⟩) ln c) ∧ w'.cell? ⟨ba, oa, none⟩ = some (.bool ta.s) ∧ w'.cell? ⟨ba, oa + 1, none⟩ = some (.slice ta.a1 ta.n1 ta.c1) ∧ w'.cell? ⟨ba, oa + 2, none⟩ = some (.slice ta.a2 ta.n2 ta.c2)) W) := fun W hW => by
    have h2 := below_step (unhide HB3) hW
    refine ⟨unhide HCF W h2, ?_, ?_, ?_⟩
    · rw [h2.cell (p := ⟨ba, oa, none⟩) (unhide HLB)]; exact q0
    · rw [h2.cell (p := ⟨ba, oa + 1, none⟩) (unhide HLB)]; exact q1
    · rw [h2.cell (p := ⟨ba, oa + 2, none⟩) (unhide HLB)]; exact q2
  clear b3 X3 hv3 hr3 hb3 HOF2 q0 q1 q2 ra
  go_wp2_with fail
  clear hW3 hbH
  refine wp_region_hold (fun w' : World => w'.cell? ⟨fb, 1, none⟩ = some (.slice (some ⟨ba, oa, none⟩) ln c) ∧ w'.cell? ⟨ba, oa, none⟩ = some (.bool ta.s) ∧ w'.cell? ⟨ba, oa + 1, none⟩ = some (.slice ta.a1 ta.n1 ta.c1) ∧ w'.cell? ⟨ba, oa + 2, none⟩ = some (.slice ta.a2 ta.n2 ta.c2)) (by kernel_rfl) ?_
  have bd0 : Below W3.heap.size W3 W3.drew := (Below.refl _ _).drew
  obtain ⟨Wx, hWx⟩ : ∃ W, W3.drew = W := ⟨_, rfl⟩
  rw [hWx] at bd0 ⊢
  have hC0 : (fun w' : World => w'.cell? ⟨fb, 1, none⟩ = some (.slice (some ⟨ba, oa, none⟩) ln c) ∧ w'.cell? ⟨ba, oa, none⟩ = some (.bool ta.s) ∧ w'.cell? ⟨ba, oa + 1, none⟩ = some (.slice ta.a1 ta.n1 ta.c1) ∧ w'.cell? ⟨ba, oa + 2, none⟩ = some (.slice ta.a2 ta.n2 ta.c2)) Wx := unhide HCC _ bd0
  have KP1 : Hid (∀ (w w' : World) (s : Value), (fun (w : World) (s : Value) => RatIs w s (((1 : Int)) : Rat)) w s → Below w.heap.size w w' → (fun (w : World) (s : Value) => RatIs w s (((1 : Int)) : Rat)) w' s) := fun _ _ _ h hb => h.below hb
  have KP2 : Hid (∀ (w w' : World) (s : Value), (fun (w : World) (s : Value) => RatIs w s ((((1 : Int)) : Rat) - qs[0]!)) w s → Below w.heap.size w w' → (fun (w : World) (s : Value) => RatIs w s ((((1 : Int)) : Rat) - qs[0]!)) w' s) := fun _ _ _ h hb => h.below hb
  refine wpHold_take (i := 1) (v := ?_) rfl (by kernel_rfl) (by kernel_rfl) (by kernel_rfl) (fun _ _ _ h => h) (Or.inl ⟨by rfl, ?_⟩) hC0 ?_
  rotate_left
  · intro w hSw; clear hSw; go_simp; (try with_reducible rfl)
  (try simp only [List.getElem_toArray, List.getElem_cons_succ, List.getElem_cons_zero])
  (try simp only [Act.put, List.setIfInBounds_toArray, List.set_cons_zero, List.set_cons_succ])
  refine wpHold_take (i := 2) (v := ?_) rfl (by kernel_rfl) (by kernel_rfl) (by kernel_rfl) (fun _ _ _ h => h) (Or.inl ⟨by rfl, ?_⟩) hC0 ?_
  rotate_left
  · intro w hSw; (try dsimp only at hSw); obtain ⟨z0, z1, z2, z3⟩ := hSw; go_simp; (try with_reducible rfl)
  (try simp only [List.getElem_toArray, List.getElem_cons_succ, List.getElem_cons_zero])
  (try simp only [Act.put, List.setIfInBounds_toArray, List.set_cons_zero, List.set_cons_succ])
  refine wpHold_take (i := 3) (v := ?_) rfl (by kernel_rfl) (by kernel_rfl) (by kernel_rfl) (fun _ _ _ h => h) (Or.inl ⟨by rfl, ?_⟩) hC0 ?_
  rotate_left
  · intro w hSw; clear hSw; go_simp; (try with_reducible rfl)
  (try simp only [List.getElem_toArray, List.getElem_cons_succ, List.getElem_cons_zero])
  (try simp only [Act.put, List.setIfInBounds_toArray, List.set_cons_zero, List.set_cons_succ])
  refine wpHold_take (i := 4) (v := ?_) rfl (by kernel_rfl) (by kernel_rfl) (by kernel_rfl) (fun _ _ _ h => h) (Or.inl ⟨by rfl, ?_⟩) hC0 ?_
  rotate_left
  · intro w hSw; (try dsimp only at hSw); obtain ⟨z0, z1, z2, z3⟩ := hSw; go_simp; (try with_reducible rfl)
  (try simp only [List.getElem_toArray, List.getElem_cons_succ, List.getElem_cons_zero])
  (try simp only [Act.put, List.setIfInBounds_toArray, List.set_cons_zero, List.set_cons_succ])
  refine wpHold_listed (n := 5) (L' := (fun nc nl => #[decide (1 ≤ nc), true, true, true, true, decide (2 ≤ nc), nl, false, false]) 0 false) (by kernel_rfl) (by kernel_rfl) ?_
  refine wpHold_name (fun a0 ha0 => ?_)
  refine chain_fin 2 (fun nc nl => #[decide (1 ≤ nc), true, true, true, true, decide (2 ≤ nc), nl, false, false]) (fun nc => match nc with | 0 => 0 | _ => 5) 6 2 (fun nc nl na W => ∃ s1 s2 s3, na = ((a0.put (some 36) s1).put (some 41) s2).put (some 10) s3 ∧ Nj2 (fun (w : World) (s : Value) => RatIs w s (((1 : Int)) : Rat)) (fun (w : World) (s : Value) => RatIs w s ((((1 : Int)) : Rat) - qs[0]!)) Wx nc nl W s1 s2 s3) ?_ ?_ ?_ ?_ ?_ ?_ ?_ 3 0 false (by omega) (by rfl) _ _ ⟨undef, undef, undef, by subst ha0; rfl, Below.refl _ _, fun h => absurd h (by decide), fun h => absurd h (by decide), fun h => by cases h⟩
  · clear ha0
    intro nc nl hnc
    match nc, hnc with
    | 0, _ => cases nl <;> (show (_ : Bool) = _; kernel_rfl)
    | 1, _ => cases nl <;> (show (_ : Bool) = _; kernel_rfl)
  · clear ha0
    intro nc nl hnc
    match nc, hnc with
    | 0, _ => cases nl <;> (show (_ : Bool) = _; kernel_rfl)
    | 1, _ => cases nl <;> (show (_ : Bool) = _; kernel_rfl)
  · clear ha0
    intro nc nl hnc
    match nc, hnc with
    | 0, _ => rfl
    | 1, _ => rfl
  · clear ha0
    intro nc hnc
    match nc, hnc with
    | 0, _ => rfl
    | 1, _ => rfl
  · rintro nc nl na wv hnc ⟨s1, s2, s3, rfl, J⟩
    subst ha0
    match nc, hnc, J with
    | 0, _, J =>
      refine wpOp_step rfl (fun K hK => ?_)
      (try simp only [Act.put, List.setIfInBounds_toArray, List.set_cons_zero, List.set_cons_succ] at hK ⊢)
      (try simp only [List.getElem_toArray, List.getElem_cons_succ, List.getElem_cons_zero])
      go_simp
      refine (whole_any 1 (by decide) (by decide) _).mono ?_
      rintro e wz ⟨v_, rfl, hv, hb⟩
      exact hK _ _ ⟨unhide HCC _ (below_step bd0 (below_step J.bl hb)), v_, s2, s3, rfl, below_step J.bl hb, fun _ => hv, fun h => absurd h (by decide), fun h => by
        obtain ⟨b, e1, e2, e3⟩ := J.al h
        exact ⟨b, e1, e2.keep hb, e3⟩⟩
    | 1, _, J =>
      refine wpOp_step rfl (fun K hK => ?_)
      (try simp only [Act.put, List.setIfInBounds_toArray, List.set_cons_zero, List.set_cons_succ] at hK ⊢)
      (try simp only [List.getElem_toArray, List.getElem_cons_succ, List.getElem_cons_zero])
      go_simp
      refine (subR_any _ ta.val _ _ _ (J.r1 (by decide)) ((unhide HTA).below (below_step bd0 J.bl)) 20 (unhide HR1) (unhide HRA) (unhide HJ20)).mono ?_
      rintro e wz ⟨v_, rfl, hv, hb⟩
      exact hK _ _ ⟨unhide HCC _ (below_step bd0 (below_step J.bl hb)), s1, v_, s3, rfl, below_step J.bl hb, fun _ => unhide KP1 _ _ _ (J.r1 (by decide)) hb, fun _ => hv, fun h => by
        obtain ⟨b, e1, e2, e3⟩ := J.al h
        exact ⟨b, e1, e2.keep hb, e3⟩⟩
  · rintro nc na wv hnc ⟨s1, s2, s3, rfl, J⟩
    subst ha0
    refine wpOp_step rfl (fun K hK => ?_)
    (try simp only [Act.put, List.setIfInBounds_toArray, List.set_cons_zero, List.set_cons_succ] at hK ⊢)
    (try simp only [List.getElem_toArray, List.getElem_cons_succ, List.getElem_cons_zero])
    go_simp
    have hb := alloc_below wv (.cells #[.bool false, .slice none 0 0, .slice none 0 0] 48)
    exact hK _ _ ⟨unhide HCC _ (below_step bd0 (below_step J.bl hb)), s1, s2, .pointer (some ⟨wv.heap.size, 0, none⟩), rfl, below_step J.bl hb, fun h => unhide KP1 _ _ _ (J.r1 h) hb, fun h => unhide KP2 _ _ _ (J.r2 h) hb, fun _ => ⟨wv.heap.size, rfl, BoxIs.new (t := zTri) (rat_zero _), J.bl.size⟩⟩
  · rintro nl na wv ⟨s1, s2, s3, rfl, J⟩
    subst ha0
    obtain ⟨tS, rfl, r0⟩ := tri_of (J.r2 (by decide))
    simp only [Tri.val]
    (try simp only [Act.put, List.setIfInBounds_toArray, List.set_cons_zero, List.set_cons_succ])
    have hCv : (fun w' : World => w'.cell? ⟨fb, 1, none⟩ = some (.slice (some ⟨ba, oa, none⟩) ln c) ∧ w'.cell? ⟨ba, oa, none⟩ = some (.bool ta.s) ∧ w'.cell? ⟨ba, oa + 1, none⟩ = some (.slice ta.a1 ta.n1 ta.c1) ∧ w'.cell? ⟨ba, oa + 2, none⟩ = some (.slice ta.a2 ta.n2 ta.c2)) wv := unhide HCC _ (below_step bd0 J.bl)
    clear hC0
    cases nl with
    | true =>
      obtain ⟨bS, rfl, B10, e10⟩ := J.al rfl
      have ⟨l0, l1, l2⟩ := B10.free
      have ⟨k0, k1, k2⟩ := B10.cells _ (Below.refl _ _)
      have HJB := hide (below_step bd0 J.bl)
      have NB := B10.set r0
      have e10' : W3.heap.size ≤ bS := Nat.le_trans bd0.size e10
      have YB := (((below_step bd0 J.bl).setCell (p := ⟨bS, 0, none⟩) e10' (.bool tS.s)).setCell (p := ⟨bS, 1, none⟩) e10' (.slice tS.a1 tS.n1 tS.c1)).setCell (p := ⟨bS, 2, none⟩) e10' (.slice tS.a2 tS.n2 tS.c2)
      have HG_bS := hide e10'
      have hCn : (fun w' : World => w'.cell? ⟨fb, 1, none⟩ = some (.slice (some ⟨ba, oa, none⟩) ln c) ∧ w'.cell? ⟨ba, oa, none⟩ = some (.bool ta.s) ∧ w'.cell? ⟨ba, oa + 1, none⟩ = some (.slice ta.a1 ta.n1 ta.c1) ∧ w'.cell? ⟨ba, oa + 2, none⟩ = some (.slice ta.a2 ta.n2 ta.c2)) _ := unhide HCC _ YB
      obtain ⟨WbS, hWy⟩ : ∃ W, ((wv.setCell ⟨bS, 0, none⟩ (.bool tS.s)).setCell ⟨bS, 1, none⟩ (.slice tS.a1 tS.n1 tS.c1)).setCell ⟨bS, 2, none⟩ (.slice tS.a2 tS.n2 tS.c2) = W := ⟨_, rfl⟩
      rw [hWy] at NB YB hCn
      have HX_bS := hide NB
      have HY_bS := hide YB
      clear J B10 YB NB e10' hCv
      refine wpHold_one (k := 7) (by kernel_rfl) rfl (fun K hK => ?_)
      (try simp only [List.getElem_toArray, List.getElem_cons_succ, List.getElem_cons_zero])
      go_simp
      refine hK.out _ _ (unhide HCC _ (unhide HJB)) ?_
      clear hK K
      (try simp only [Act.put, List.setIfInBounds_toArray, List.set_cons_zero, List.set_cons_succ])
      refine wpHold_one (k := 8) (by kernel_rfl) rfl (fun K hK => ?_)
      (try simp only [List.getElem_toArray, List.getElem_cons_succ, List.getElem_cons_zero])
      go_simp
      refine hK.out _ _ hCn ?_
      clear hK K
      (try simp only [Act.put, List.setIfInBounds_toArray, List.set_cons_zero, List.set_cons_succ])
      refine wpHold_done (by kernel_rfl) ?_ _
      clear hCn l0 l1 l2 k0 k1 k2 hWy e10 bd0 hWx r0 HJB KP1 KP2
      have HQ0 : Hid ((1 : Rat) - Bth.ps (fun i => qs[i]!) (0 + 1) = (((1 : Int)) : Rat) - qs[0]!) := by show _ = _; show (1 : Rat) - (0 + qs[0]!) = 1 - qs[0]!; grind
      have HXH3 := hide ((unhide HXH).keep (unhide HY_bS))
      have HBz := hide (below_step (unhide HB3) (unhide HY_bS))
      have HGS : Hid (W0.heap.size ≤ bS) := by have := unhide HG_bS; have := (unhide HB3).size; show _ ≤ _; omega
      have HHS : Hid (bH < bS) := by have := unhide HG_bS; have := (unhide HXH).lt; show _ < _; omega
      have HXS0 : Hid (BoxIs WbS bS tS (1 - Bth.ps (fun i => qs[i]!) (0 + 1))) := by
        show BoxIs _ _ _ _
        rw [unhide HQ0]; exact unhide HX_bS
      clear HX_bS HY_bS HG_bS HXH HCC HB3
      go_wp2_with fail
      go_loopw [9] (fun vn wr => ∃ (n : Nat) (ts : Tri), vn = .int .i64 (n : Int) ∧ n < ln ∧ Hid (∀ m, m < n → sh < 1 - Bth.ps (fun i => qs[i]!) (m + 1)) ∧ BoxIs wr bS ts (1 - Bth.ps (fun i => qs[i]!) (n + 1)) ∧ BoxIs wr bH tH sh ∧ Below W0.heap.size W0 wr) (fun vn _ => ln - (intOf vn).toNat)
      case atStart => exact ⟨0, tS, rfl, f1, fun m hm => absurd hm (Nat.not_lt_zero _), unhide HXS0, unhide HXH3, unhide HBz⟩
      case round =>
        obtain ⟨n, ts, rfl, hn, hmo, hx, hh, hb⟩ := hrel
        clear HXS0 HXH3 HBz
        have HMO : Hid (∀ m, m < n → sh < 1 - Bth.ps (fun i => qs[i]!) (m + 1)) := hmo
        have HXS := hide hx
        have HXHr := hide hh
        have HBr := hide hb
        obtain ⟨n1, hn1⟩ : ∃ n1, n + 1 = n1 := ⟨_, rfl⟩
        rw [hn1] at HXS
        have hw1 : IntKind.i64.wrap ((n : Int) + 1) = (n1 : Int) := by rw [IntKind.wrap_i64]; omega
        have HRSn := hide (unhide HRS n1 (by omega))
        have HN1 := hide hn1
        have ⟨x0, x1, x2⟩ := (unhide HXS).cells _ (Below.refl _ _)
        have ⟨x3, x4, x5⟩ := (unhide HXHr).cells _ (Below.refl _ _)
        have HCM := hide (cmpR_all ts.val tH.val _ _ wr (unhide HXS).2 (unhide HXHr).2 20 (unhide HRSn) (unhide HRH) (unhide HK20))
        clear hmo hx hh hb hn1
        by_cases hgt : sh < 1 - Bth.ps (fun i => qs[i]!) n1
        · have hcv : cmpv (1 - Bth.ps (fun i => qs[i]!) n1) sh = 1 := cmpv_gt hgt
          rw [hcv] at HCM
          have hn1l : n1 < ln := by
            have := unhide HN1
            refine Nat.lt_of_le_of_ne (by omega) (fun e => ?_)
            rw [e, unhide HONE] at hgt
            have := unhide HSH0
            grind
          have HGT := hide hgt
          clear hgt hcv
          go_wp2_with fail
          clear x0 x1 x2 x3 x4 x5
          refine (unhide HCM).mono ?_
          rintro e w4 ⟨rfl, hb4⟩
          have HXT := hide ((unhide HXS).keep hb4)
          have HXH4 := hide ((unhide HXHr).keep hb4)
          have HB4 := hide (below_step (unhide HBr) hb4)
          obtain ⟨tb, q0, q1, q2, rb⟩ := unhide Hba n1 (by have := unhide HKL; omega)
          have HTB := hide (rb.below (unhide HB4))
          have HRTb := hide ((unhide HRQ n1 (by omega)).mono (show 1 ≤ 20 by omega))
          have HCC2 : Hid (∀ W, Below w4.heap.size w4 W → (fun w' : World => (w'.cell? ⟨bS, 0, none⟩ = some (.bool ts.s) ∧ w'.cell? ⟨bS, 1, none⟩ = some (.slice ts.a1 ts.n1 ts.c1) ∧ w'.cell? ⟨bS, 2, none⟩ = some (.slice ts.a2 ts.n2 ts.c2)) ∧ w'.cell? ⟨fb, 1, none⟩ = some (.slice (some ⟨ba, oa, none⟩) ln c) ∧ w'.cell? ⟨ba, oa + n1 * 3, none⟩ = some (.bool tb.s) ∧ w'.cell? ⟨ba, oa + n1 * 3 + 1, none⟩ = some (.slice tb.a1 tb.n1 tb.c1) ∧ w'.cell? ⟨ba, oa + n1 * 3 + 2, none⟩ = some (.slice tb.a2 tb.n2 tb.c2)) W) := fun W hW => by
            have h2 := below_step (unhide HB4) hW
            refine ⟨(unhide HXT).cells W hW, unhide HCF W h2, ?_, ?_, ?_⟩
            · rw [h2.cell (p := ⟨ba, oa + n1 * 3, none⟩) (unhide HLB)]; exact q0
            · rw [h2.cell (p := ⟨ba, oa + n1 * 3 + 1, none⟩) (unhide HLB)]; exact q1
            · rw [h2.cell (p := ⟨ba, oa + n1 * 3 + 2, none⟩) (unhide HLB)]; exact q2
          have HQN : Hid (1 - Bth.ps (fun i => qs[i]!) n1 - qs[n1]! = 1 - Bth.ps (fun i => qs[i]!) (n1 + 1)) := by
            show _ = 1 - (Bth.ps (fun i => qs[i]!) n1 + qs[n1]!)
            grind
          have g0 : (0 : Int) ≤ (n1 : Int) := by omega
          have g1 : (n1 : Int) < (ln : Int) := by omega
          clear hb4 HCM q0 q1 q2 rb HXS HXHr HBr
          go_wp2_with fail
          refine wp_region_till (fun w' : World => (w'.cell? ⟨bS, 0, none⟩ = some (.bool ts.s) ∧ w'.cell? ⟨bS, 1, none⟩ = some (.slice ts.a1 ts.n1 ts.c1) ∧ w'.cell? ⟨bS, 2, none⟩ = some (.slice ts.a2 ts.n2 ts.c2)) ∧ w'.cell? ⟨fb, 1, none⟩ = some (.slice (some ⟨ba, oa, none⟩) ln c) ∧ w'.cell? ⟨ba, oa + n1 * 3, none⟩ = some (.bool tb.s) ∧ w'.cell? ⟨ba, oa + n1 * 3 + 1, none⟩ = some (.slice tb.a1 tb.n1 tb.c1) ∧ w'.cell? ⟨ba, oa + n1 * 3 + 2, none⟩ = some (.slice tb.a2 tb.n2 tb.c2)) 7 (by kernel_rfl) ?_
          have bd0 : Below w4.heap.size w4 w4.drew := (Below.refl _ _).drew
          have hC0 : (fun w' : World => (w'.cell? ⟨bS, 0, none⟩ = some (.bool ts.s) ∧ w'.cell? ⟨bS, 1, none⟩ = some (.slice ts.a1 ts.n1 ts.c1) ∧ w'.cell? ⟨bS, 2, none⟩ = some (.slice ts.a2 ts.n2 ts.c2)) ∧ w'.cell? ⟨fb, 1, none⟩ = some (.slice (some ⟨ba, oa, none⟩) ln c) ∧ w'.cell? ⟨ba, oa + n1 * 3, none⟩ = some (.bool tb.s) ∧ w'.cell? ⟨ba, oa + n1 * 3 + 1, none⟩ = some (.slice tb.a1 tb.n1 tb.c1) ∧ w'.cell? ⟨ba, oa + n1 * 3 + 2, none⟩ = some (.slice tb.a2 tb.n2 tb.c2)) w4.drew := unhide HCC2 _ bd0
          refine wpTill_take (i := 0) (v := ?_) rfl (by kernel_rfl) (by kernel_rfl) (by kernel_rfl) (by kernel_rfl) (by kernel_rfl) (by kernel_rfl) (fun _ _ _ h => h) (Or.inl ⟨by rfl, ?_⟩) hC0 ?_
          rotate_left
          · intro w hSw; (try dsimp only at hSw); obtain ⟨⟨u0, u1, u2⟩, u3, u4, u5, u6⟩ := hSw; go_simp; (try with_reducible rfl)
          (try simp only [List.getElem_toArray, List.getElem_cons_succ, List.getElem_cons_zero])
          (try simp only [Act.put, List.setIfInBounds_toArray, List.set_cons_zero, List.set_cons_succ])
          refine wpTill_pure (i := 1) (v := ?_) rfl (by kernel_rfl) (by kernel_rfl) (by kernel_rfl) (by kernel_rfl) (fun _ _ _ h => h) (Or.inl ⟨by rfl, ?_⟩) (fun _ => hC0) ?_
          rotate_left
          · intro w hSw; clear hSw; go_simp; (try with_reducible rfl)
          (try simp only [List.getElem_toArray, List.getElem_cons_succ, List.getElem_cons_zero])
          (try simp only [Act.put, List.setIfInBounds_toArray, List.set_cons_zero, List.set_cons_succ])
          refine wpTill_take (i := 2) (v := ?_) rfl (by kernel_rfl) (by kernel_rfl) (by kernel_rfl) (by kernel_rfl) (by kernel_rfl) (by kernel_rfl) (fun _ _ _ h => h) (Or.inl ⟨by rfl, ?_⟩) hC0 ?_
          rotate_left
          · intro w hSw; (try dsimp only at hSw); obtain ⟨⟨u0, u1, u2⟩, u3, u4, u5, u6⟩ := hSw; go_simp; (try with_reducible rfl)
          (try simp only [List.getElem_toArray, List.getElem_cons_succ, List.getElem_cons_zero])
          (try simp only [Act.put, List.setIfInBounds_toArray, List.set_cons_zero, List.set_cons_succ])
          refine wpTill_pure (i := 3) (v := ?_) rfl (by kernel_rfl) (by kernel_rfl) (by kernel_rfl) (by kernel_rfl) (fun _ _ _ h => h) (Or.inl ⟨by rfl, ?_⟩) (fun _ => hC0) ?_
          rotate_left
          · intro w hSw; clear hSw; go_simp; (try with_reducible rfl)
          (try simp only [List.getElem_toArray, List.getElem_cons_succ, List.getElem_cons_zero])
          (try simp only [Act.put, List.setIfInBounds_toArray, List.set_cons_zero, List.set_cons_succ])
          refine wpTill_pure (i := 4) (v := ?_) rfl (by kernel_rfl) (by kernel_rfl) (by kernel_rfl) (by kernel_rfl) (fun _ _ _ h => h) (Or.inl ⟨by rfl, ?_⟩) (fun _ => hC0) ?_
          rotate_left
          · intro w hSw; clear hSw; go_simp; (try with_reducible rfl)
          (try simp only [List.getElem_toArray, List.getElem_cons_succ, List.getElem_cons_zero])
          (try simp only [Act.put, List.setIfInBounds_toArray, List.set_cons_zero, List.set_cons_succ])
          refine wpTill_take (i := 5) (v := ?_) rfl (by kernel_rfl) (by kernel_rfl) (by kernel_rfl) (by kernel_rfl) (by kernel_rfl) (by kernel_rfl) (fun _ _ _ h => h) (Or.inl ⟨by rfl, ?_⟩) hC0 ?_
          rotate_left
          · intro w hSw; (try dsimp only at hSw); obtain ⟨⟨u0, u1, u2⟩, u3, u4, u5, u6⟩ := hSw; go_simp; (try with_reducible rfl)
          (try simp only [List.getElem_toArray, List.getElem_cons_succ, List.getElem_cons_zero])
          (try simp only [Act.put, List.setIfInBounds_toArray, List.set_cons_zero, List.set_cons_succ])
          refine wpTill_one (k := 6) (by kernel_rfl) rfl (fun K hK => ?_)
          (try simp only [List.getElem_toArray, List.getElem_cons_succ, List.getElem_cons_zero])
          go_simp
          refine (subR_any ts.val tb.val _ _ _ ((unhide HXT).2.below bd0) ((unhide HTB).below bd0) 20 (unhide HRSn) (unhide HRTb) (unhide HJ20)).mono ?_
          rintro e xw_1 ⟨xv_1, rfl, hv_1, hb_1⟩
          have cc_1 := below_step bd0 hb_1
          have hC_1 : (fun w' : World => (w'.cell? ⟨bS, 0, none⟩ = some (.bool ts.s) ∧ w'.cell? ⟨bS, 1, none⟩ = some (.slice ts.a1 ts.n1 ts.c1) ∧ w'.cell? ⟨bS, 2, none⟩ = some (.slice ts.a2 ts.n2 ts.c2)) ∧ w'.cell? ⟨fb, 1, none⟩ = some (.slice (some ⟨ba, oa, none⟩) ln c) ∧ w'.cell? ⟨ba, oa + n1 * 3, none⟩ = some (.bool tb.s) ∧ w'.cell? ⟨ba, oa + n1 * 3 + 1, none⟩ = some (.slice tb.a1 tb.n1 tb.c1) ∧ w'.cell? ⟨ba, oa + n1 * 3 + 2, none⟩ = some (.slice tb.a2 tb.n2 tb.c2)) xw_1 := unhide HCC2 _ cc_1
          refine hK.out _ _ (fun _ => hC_1) ?_
          clear hK K
          (try simp only [Act.put, List.setIfInBounds_toArray, List.set_cons_zero, List.set_cons_succ])
          obtain ⟨t9, rfl, hr9⟩ := tri_of hv_1
          simp only [Tri.val]
          have XT9 := (unhide HXT).keep cc_1
          have XH9 := (unhide HXH4).keep cc_1
          have ⟨l0, l1, l2⟩ := XT9.free
          have ⟨y0, y1, y2⟩ := XT9.cells _ (Below.refl _ _)
          have B9 := (((below_step (unhide HB4) cc_1).setCell (p := ⟨bS, 0, none⟩) (unhide HGS) (.bool t9.s)).setCell (p := ⟨bS, 1, none⟩) (unhide HGS) (.slice t9.a1 t9.n1 t9.c1)).setCell (p := ⟨bS, 2, none⟩) (unhide HGS) (.slice t9.a2 t9.n2 t9.c2)
          have NS := XT9.set hr9
          have NH := XH9.other XT9 (Nat.ne_of_lt (unhide HHS)) (.bool t9.s) (.slice t9.a1 t9.n1 t9.c1) (.slice t9.a2 t9.n2 t9.c2)
          obtain ⟨W9, hW9⟩ : ∃ W, ((xw_1.setCell ⟨bS, 0, none⟩ (.bool t9.s)).setCell ⟨bS, 1, none⟩ (.slice t9.a1 t9.n1 t9.c1)).setCell ⟨bS, 2, none⟩ (.slice t9.a2 t9.n2 t9.c2) = W := ⟨_, rfl⟩
          rw [hW9] at B9 NS NH
          rw [unhide HQN] at NS
          have HNS := hide NS
          have HNH := hide NH
          have HB9 := hide B9
          clear XT9 XH9 B9 NS NH hv_1 hr9
          refine wpTill_one (k := 7) (by kernel_rfl) rfl (fun K hK => ?_)
          (try simp only [List.getElem_toArray, List.getElem_cons_succ, List.getElem_cons_zero])
          go_simp
          refine hK.out _ _ (fun h => absurd (h.symm.trans (by kernel_rfl)) Bool.false_ne_true) ?_
          clear hK K
          (try simp only [Act.put, List.setIfInBounds_toArray, List.set_cons_zero, List.set_cons_succ])
          refine wpTill_done (by kernel_rfl) ?_ _
          clear hC0 hC_1 cc_1 bd0 hb_1 l0 l1 l2 y0 y1 y2 hW9 HCC2 HTB HXT HXH4
          go_wp2_with fail
          exact ⟨⟨n1, t9, by go_num, hn1l, fun m hm => by
            have := unhide HN1
            by_cases e : m = n
            · rw [e, unhide HN1]; exact unhide HGT
            · exact unhide HMO m (by omega), unhide HNS, unhide HNH, unhide HB9⟩, by have := unhide HN1; simp [intOf]; omega⟩
        · have hcv := (cmpv_le (a := 1 - Bth.ps (fun i => qs[i]!) n1) (b := sh) (by grind)).2
          obtain ⟨cv, hcv_⟩ : ∃ x, cmpv (1 - Bth.ps (fun i => qs[i]!) n1) sh = x := ⟨_, rfl⟩
          rw [hcv_] at HCM hcv
          have hcv0 : ¬ 0 < cv := by omega
          have HLW : Hid (LwIs qs sh n) := ⟨by rw [unhide HKL]; exact hn, unhide HMO, by rw [unhide HN1]; exact hgt⟩
          clear hgt hcv hcv_
          go_wp2_with fail
          clear x0 x1 x2 x3 x4 x5
          refine (unhide HCM).mono ?_
          rintro e w4 ⟨rfl, hb4⟩
          have HBF := hide (below_step (unhide HB0) (below_step (unhide HBr) hb4))
          clear hb4 HCM
          go_wp2
          go_ret2
          exact ⟨n, rfl, unhide HLW, unhide HBF⟩
    | false =>
      have hbA := alloc_below wv (.cells #[.bool false, .slice none 0 0, .slice none 0 0] 48)
      have B10 := BoxIs.new (w := wv) (t := zTri) (q := 0) (rat_zero _)
      have B10' : BoxIs (wv.alloc (.cells #[.bool false, .slice none 0 0, .slice none 0 0] 48)) wv.heap.size zTri 0 := B10
      have rA := r0.below hbA
      have blA := below_step J.bl hbA
      have hCA : (fun w' : World => w'.cell? ⟨fb, 1, none⟩ = some (.slice (some ⟨ba, oa, none⟩) ln c) ∧ w'.cell? ⟨ba, oa, none⟩ = some (.bool ta.s) ∧ w'.cell? ⟨ba, oa + 1, none⟩ = some (.slice ta.a1 ta.n1 ta.c1) ∧ w'.cell? ⟨ba, oa + 2, none⟩ = some (.slice ta.a2 ta.n2 ta.c2)) _ := unhide HCC _ (below_step bd0 blA)
      have e10 : Wx.heap.size ≤ wv.heap.size := J.bl.size
      refine wpHold_one (k := 6) (by kernel_rfl) rfl (fun K hK => ?_)
      (try simp only [List.getElem_toArray, List.getElem_cons_succ, List.getElem_cons_zero])
      go_simp
      refine hK.out _ _ hCA ?_
      clear hK K
      (try simp only [Act.put, List.setIfInBounds_toArray, List.set_cons_zero, List.set_cons_succ])
      obtain ⟨wA, hwA⟩ : ∃ W, wv.alloc (.cells #[.bool false, .slice none 0 0, .slice none 0 0] 48) = W := ⟨_, rfl⟩
      obtain ⟨bS, hbn⟩ : ∃ b, wv.heap.size = b := ⟨_, rfl⟩
      rw [hwA] at B10' rA blA hCA
      rw [hbn] at B10' e10
      simp only [hwA, hbn]
      clear B10 hbA hwA hbn
      replace B10 := B10'
      clear B10'
      have ⟨l0, l1, l2⟩ := B10.free
      have ⟨k0, k1, k2⟩ := B10.cells _ (Below.refl _ _)
      have HJB := hide (below_step bd0 blA)
      have NB := B10.set rA
      have e10' : W3.heap.size ≤ bS := Nat.le_trans bd0.size e10
      have YB := (((below_step bd0 blA).setCell (p := ⟨bS, 0, none⟩) e10' (.bool tS.s)).setCell (p := ⟨bS, 1, none⟩) e10' (.slice tS.a1 tS.n1 tS.c1)).setCell (p := ⟨bS, 2, none⟩) e10' (.slice tS.a2 tS.n2 tS.c2)
      have HG_bS := hide e10'
      have hCn : (fun w' : World => w'.cell? ⟨fb, 1, none⟩ = some (.slice (some ⟨ba, oa, none⟩) ln c) ∧ w'.cell? ⟨ba, oa, none⟩ = some (.bool ta.s) ∧ w'.cell? ⟨ba, oa + 1, none⟩ = some (.slice ta.a1 ta.n1 ta.c1) ∧ w'.cell? ⟨ba, oa + 2, none⟩ = some (.slice ta.a2 ta.n2 ta.c2)) _ := unhide HCC _ YB
      obtain ⟨WbS, hWy⟩ : ∃ W, ((wA.setCell ⟨bS, 0, none⟩ (.bool tS.s)).setCell ⟨bS, 1, none⟩ (.slice tS.a1 tS.n1 tS.c1)).setCell ⟨bS, 2, none⟩ (.slice tS.a2 tS.n2 tS.c2) = W := ⟨_, rfl⟩
      rw [hWy] at NB YB hCn
      have HX_bS := hide NB
      have HY_bS := hide YB
      clear J B10 YB NB e10' hCv
      refine wpHold_one (k := 7) (by kernel_rfl) rfl (fun K hK => ?_)
      (try simp only [List.getElem_toArray, List.getElem_cons_succ, List.getElem_cons_zero])
      go_simp
      refine hK.out _ _ (unhide HCC _ (unhide HJB)) ?_
      clear hK K
      (try simp only [Act.put, List.setIfInBounds_toArray, List.set_cons_zero, List.set_cons_succ])
      refine wpHold_one (k := 8) (by kernel_rfl) rfl (fun K hK => ?_)
      (try simp only [List.getElem_toArray, List.getElem_cons_succ, List.getElem_cons_zero])
      go_simp
      refine hK.out _ _ hCn ?_
      clear hK K
      (try simp only [Act.put, List.setIfInBounds_toArray, List.set_cons_zero, List.set_cons_succ])
      refine wpHold_done (by kernel_rfl) ?_ _
      clear hCn l0 l1 l2 k0 k1 k2 hWy e10 bd0 hWx r0 HJB KP1 KP2 hCA rA blA
      have HQ0 : Hid ((1 : Rat) - Bth.ps (fun i => qs[i]!) (0 + 1) = (((1 : Int)) : Rat) - qs[0]!) := by show _ = _; show (1 : Rat) - (0 + qs[0]!) = 1 - qs[0]!; grind
      have HXH3 := hide ((unhide HXH).keep (unhide HY_bS))
      have HBz := hide (below_step (unhide HB3) (unhide HY_bS))
      have HGS : Hid (W0.heap.size ≤ bS) := by have := unhide HG_bS; have := (unhide HB3).size; show _ ≤ _; omega
      have HHS : Hid (bH < bS) := by have := unhide HG_bS; have := (unhide HXH).lt; show _ < _; omega
      have HXS0 : Hid (BoxIs WbS bS tS (1 - Bth.ps (fun i => qs[i]!) (0 + 1))) := by
        show BoxIs _ _ _ _
        rw [unhide HQ0]; exact unhide HX_bS
      clear HX_bS HY_bS HG_bS HXH HCC HB3
      go_wp2_with fail
      go_loopw [9] (fun vn wr => ∃ (n : Nat) (ts : Tri), vn = .int .i64 (n : Int) ∧ n < ln ∧ Hid (∀ m, m < n → sh < 1 - Bth.ps (fun i => qs[i]!) (m + 1)) ∧ BoxIs wr bS ts (1 - Bth.ps (fun i => qs[i]!) (n + 1)) ∧ BoxIs wr bH tH sh ∧ Below W0.heap.size W0 wr) (fun vn _ => ln - (intOf vn).toNat)
      case atStart => exact ⟨0, tS, rfl, f1, fun m hm => absurd hm (Nat.not_lt_zero _), unhide HXS0, unhide HXH3, unhide HBz⟩
      case round =>
        obtain ⟨n, ts, rfl, hn, hmo, hx, hh, hb⟩ := hrel
        clear HXS0 HXH3 HBz
        have HMO : Hid (∀ m, m < n → sh < 1 - Bth.ps (fun i => qs[i]!) (m + 1)) := hmo
        have HXS := hide hx
        have HXHr := hide hh
        have HBr := hide hb
        obtain ⟨n1, hn1⟩ : ∃ n1, n + 1 = n1 := ⟨_, rfl⟩
        rw [hn1] at HXS
        have hw1 : IntKind.i64.wrap ((n : Int) + 1) = (n1 : Int) := by rw [IntKind.wrap_i64]; omega
        have HRSn := hide (unhide HRS n1 (by omega))
        have HN1 := hide hn1
        have ⟨x0, x1, x2⟩ := (unhide HXS).cells _ (Below.refl _ _)
        have ⟨x3, x4, x5⟩ := (unhide HXHr).cells _ (Below.refl _ _)
        have HCM := hide (cmpR_all ts.val tH.val _ _ wr (unhide HXS).2 (unhide HXHr).2 20 (unhide HRSn) (unhide HRH) (unhide HK20))
        clear hmo hx hh hb hn1
        by_cases hgt : sh < 1 - Bth.ps (fun i => qs[i]!) n1
        · have hcv : cmpv (1 - Bth.ps (fun i => qs[i]!) n1) sh = 1 := cmpv_gt hgt
          rw [hcv] at HCM
          have hn1l : n1 < ln := by
            have := unhide HN1
            refine Nat.lt_of_le_of_ne (by omega) (fun e => ?_)
            rw [e, unhide HONE] at hgt
            have := unhide HSH0
            grind
          have HGT := hide hgt
          clear hgt hcv
          go_wp2_with fail
          clear x0 x1 x2 x3 x4 x5
          refine (unhide HCM).mono ?_
          rintro e w4 ⟨rfl, hb4⟩
          have HXT := hide ((unhide HXS).keep hb4)
          have HXH4 := hide ((unhide HXHr).keep hb4)
          have HB4 := hide (below_step (unhide HBr) hb4)
          obtain ⟨tb, q0, q1, q2, rb⟩ := unhide Hba n1 (by have := unhide HKL; omega)
          have HTB := hide (rb.below (unhide HB4))
          have HRTb := hide ((unhide HRQ n1 (by omega)).mono (show 1 ≤ 20 by omega))
          have HCC2 : Hid (∀ W, Below w4.heap.size w4 W → (fun w' : World => (w'.cell? ⟨bS, 0, none⟩ = some (.bool ts.s) ∧ w'.cell? ⟨bS, 1, none⟩ = some (.slice ts.a1 ts.n1 ts.c1) ∧ w'.cell? ⟨bS, 2, none⟩ = some (.slice ts.a2 ts.n2 ts.c2)) ∧ w'.cell? ⟨fb, 1, none⟩ = some (.slice (some ⟨ba, oa, none⟩) ln c) ∧ w'.cell? ⟨ba, oa + n1 * 3, none⟩ = some (.bool tb.s) ∧ w'.cell? ⟨ba, oa + n1 * 3 + 1, none⟩ = some (.slice tb.a1 tb.n1 tb.c1) ∧ w'.cell? ⟨ba, oa + n1 * 3 + 2, none⟩ = some (.slice tb.a2 tb.n2 tb.c2)) W) := fun W hW => by
            have h2 := below_step (unhide HB4) hW
            refine ⟨(unhide HXT).cells W hW, unhide HCF W h2, ?_, ?_, ?_⟩
            · rw [h2.cell (p := ⟨ba, oa + n1 * 3, none⟩) (unhide HLB)]; exact q0
            · rw [h2.cell (p := ⟨ba, oa + n1 * 3 + 1, none⟩) (unhide HLB)]; exact q1
            · rw [h2.cell (p := ⟨ba, oa + n1 * 3 + 2, none⟩) (unhide HLB)]; exact q2
          have HQN : Hid (1 - Bth.ps (fun i => qs[i]!) n1 - qs[n1]! = 1 - Bth.ps (fun i => qs[i]!) (n1 + 1)) := by
            show _ = 1 - (Bth.ps (fun i => qs[i]!) n1 + qs[n1]!)
            grind
          have g0 : (0 : Int) ≤ (n1 : Int) := by omega
          have g1 : (n1 : Int) < (ln : Int) := by omega
          clear hb4 HCM q0 q1 q2 rb HXS HXHr HBr
          go_wp2_with fail
          refine wp_region_till (fun w' : World => (w'.cell? ⟨bS, 0, none⟩ = some (.bool ts.s) ∧ w'.cell? ⟨bS, 1, none⟩ = some (.slice ts.a1 ts.n1 ts.c1) ∧ w'.cell? ⟨bS, 2, none⟩ = some (.slice ts.a2 ts.n2 ts.c2)) ∧ w'.cell? ⟨fb, 1, none⟩ = some (.slice (some ⟨ba, oa, none⟩) ln c) ∧ w'.cell? ⟨ba, oa + n1 * 3, none⟩ = some (.bool tb.s) ∧ w'.cell? ⟨ba, oa + n1 * 3 + 1, none⟩ = some (.slice tb.a1 tb.n1 tb.c1) ∧ w'.cell? ⟨ba, oa + n1 * 3 + 2, none⟩ = some (.slice tb.a2 tb.n2 tb.c2)) 7 (by kernel_rfl) ?_
          have bd0 : Below w4.heap.size w4 w4.drew := (Below.refl _ _).drew
          have hC0 : (fun w' : World => (w'.cell? ⟨bS, 0, none⟩ = some (.bool ts.s) ∧ w'.cell? ⟨bS, 1, none⟩ = some (.slice ts.a1 ts.n1 ts.c1) ∧ w'.cell? ⟨bS, 2, none⟩ = some (.slice ts.a2 ts.n2 ts.c2)) ∧ w'.cell? ⟨fb, 1, none⟩ = some (.slice (some ⟨ba, oa, none⟩) ln c) ∧ w'.cell? ⟨ba, oa + n1 * 3, none⟩ = some (.bool tb.s) ∧ w'.cell? ⟨ba, oa + n1 * 3 + 1, none⟩ = some (.slice tb.a1 tb.n1 tb.c1) ∧ w'.cell? ⟨ba, oa + n1 * 3 + 2, none⟩ = some (.slice tb.a2 tb.n2 tb.c2)) w4.drew := unhide HCC2 _ bd0
          refine wpTill_take (i := 0) (v := ?_) rfl (by kernel_rfl) (by kernel_rfl) (by kernel_rfl) (by kernel_rfl) (by kernel_rfl) (by kernel_rfl) (fun _ _ _ h => h) (Or.inl ⟨by rfl, ?_⟩) hC0 ?_
          rotate_left
          · intro w hSw; (try dsimp only at hSw); obtain ⟨⟨u0, u1, u2⟩, u3, u4, u5, u6⟩ := hSw; go_simp; (try with_reducible rfl)
          (try simp only [List.getElem_toArray, List.getElem_cons_succ, List.getElem_cons_zero])
          (try simp only [Act.put, List.setIfInBounds_toArray, List.set_cons_zero, List.set_cons_succ])
          refine wpTill_pure (i := 1) (v := ?_) rfl (by kernel_rfl) (by kernel_rfl) (by kernel_rfl) (by kernel_rfl) (fun _ _ _ h => h) (Or.inl ⟨by rfl, ?_⟩) (fun _ => hC0) ?_
          rotate_left
          · intro w hSw; clear hSw; go_simp; (try with_reducible rfl)
          (try simp only [List.getElem_toArray, List.getElem_cons_succ, List.getElem_cons_zero])
          (try simp only [Act.put, List.setIfInBounds_toArray, List.set_cons_zero, List.set_cons_succ])
          refine wpTill_take (i := 2) (v := ?_) rfl (by kernel_rfl) (by kernel_rfl) (by kernel_rfl) (by kernel_rfl) (by kernel_rfl) (by kernel_rfl) (fun _ _ _ h => h) (Or.inl ⟨by rfl, ?_⟩) hC0 ?_
          rotate_left
          · intro w hSw; (try dsimp only at hSw); obtain ⟨⟨u0, u1, u2⟩, u3, u4, u5, u6⟩ := hSw; go_simp; (try with_reducible rfl)
          (try simp only [List.getElem_toArray, List.getElem_cons_succ, List.getElem_cons_zero])
          (try simp only [Act.put, List.setIfInBounds_toArray, List.set_cons_zero, List.set_cons_succ])
          refine wpTill_pure (i := 3) (v := ?_) rfl (by kernel_rfl) (by kernel_rfl) (by kernel_rfl) (by kernel_rfl) (fun _ _ _ h => h) (Or.inl ⟨by rfl, ?_⟩) (fun _ => hC0) ?_
          rotate_left
          · intro w hSw; clear hSw; go_simp; (try with_reducible rfl)
          (try simp only [List.getElem_toArray, List.getElem_cons_succ, List.getElem_cons_zero])
          (try simp only [Act.put, List.setIfInBounds_toArray, List.set_cons_zero, List.set_cons_succ])
          refine wpTill_pure (i := 4) (v := ?_) rfl (by kernel_rfl) (by kernel_rfl) (by kernel_rfl) (by kernel_rfl) (fun _ _ _ h => h) (Or.inl ⟨by rfl, ?_⟩) (fun _ => hC0) ?_
          rotate_left
          · intro w hSw; clear hSw; go_simp; (try with_reducible rfl)
          (try simp only [List.getElem_toArray, List.getElem_cons_succ, List.getElem_cons_zero])
          (try simp only [Act.put, List.setIfInBounds_toArray, List.set_cons_zero, List.set_cons_succ])
          refine wpTill_take (i := 5) (v := ?_) rfl (by kernel_rfl) (by kernel_rfl) (by kernel_rfl) (by kernel_rfl) (by kernel_rfl) (by kernel_rfl) (fun _ _ _ h => h) (Or.inl ⟨by rfl, ?_⟩) hC0 ?_
          rotate_left
          · intro w hSw; (try dsimp only at hSw); obtain ⟨⟨u0, u1, u2⟩, u3, u4, u5, u6⟩ := hSw; go_simp; (try with_reducible rfl)
          (try simp only [List.getElem_toArray, List.getElem_cons_succ, List.getElem_cons_zero])
          (try simp only [Act.put, List.setIfInBounds_toArray, List.set_cons_zero, List.set_cons_succ])
          refine wpTill_one (k := 6) (by kernel_rfl) rfl (fun K hK => ?_)
          (try simp only [List.getElem_toArray, List.getElem_cons_succ, List.getElem_cons_zero])
          go_simp
          refine (subR_any ts.val tb.val _ _ _ ((unhide HXT).2.below bd0) ((unhide HTB).below bd0) 20 (unhide HRSn) (unhide HRTb) (unhide HJ20)).mono ?_
          rintro e xw_1 ⟨xv_1, rfl, hv_1, hb_1⟩
          have cc_1 := below_step bd0 hb_1
          have hC_1 : (fun w' : World => (w'.cell? ⟨bS, 0, none⟩ = some (.bool ts.s) ∧ w'.cell? ⟨bS, 1, none⟩ = some (.slice ts.a1 ts.n1 ts.c1) ∧ w'.cell? ⟨bS, 2, none⟩ = some (.slice ts.a2 ts.n2 ts.c2)) ∧ w'.cell? ⟨fb, 1, none⟩ = some (.slice (some ⟨ba, oa, none⟩) ln c) ∧ w'.cell? ⟨ba, oa + n1 * 3, none⟩ = some (.bool tb.s) ∧ w'.cell? ⟨ba, oa + n1 * 3 + 1, none⟩ = some (.slice tb.a1 tb.n1 tb.c1) ∧ w'.cell? ⟨ba, oa + n1 * 3 + 2, none⟩ = some (.slice tb.a2 tb.n2 tb.c2)) xw_1 := unhide HCC2 _ cc_1
          refine hK.out _ _ (fun _ => hC_1) ?_
          clear hK K
          (try simp only [Act.put, List.setIfInBounds_toArray, List.set_cons_zero, List.set_cons_succ])
          obtain ⟨t9, rfl, hr9⟩ := tri_of hv_1
          simp only [Tri.val]
          have XT9 := (unhide HXT).keep cc_1
          have XH9 := (unhide HXH4).keep cc_1
          have ⟨l0, l1, l2⟩ := XT9.free
          have ⟨y0, y1, y2⟩ := XT9.cells _ (Below.refl _ _)
          have B9 := (((below_step (unhide HB4) cc_1).setCell (p := ⟨bS, 0, none⟩) (unhide HGS) (.bool t9.s)).setCell (p := ⟨bS, 1, none⟩) (unhide HGS) (.slice t9.a1 t9.n1 t9.c1)).setCell (p := ⟨bS, 2, none⟩) (unhide HGS) (.slice t9.a2 t9.n2 t9.c2)
          have NS := XT9.set hr9
          have NH := XH9.other XT9 (Nat.ne_of_lt (unhide HHS)) (.bool t9.s) (.slice t9.a1 t9.n1 t9.c1) (.slice t9.a2 t9.n2 t9.c2)
          obtain ⟨W9, hW9⟩ : ∃ W, ((xw_1.setCell ⟨bS, 0, none⟩ (.bool t9.s)).setCell ⟨bS, 1, none⟩ (.slice t9.a1 t9.n1 t9.c1)).setCell ⟨bS, 2, none⟩ (.slice t9.a2 t9.n2 t9.c2) = W := ⟨_, rfl⟩
          rw [hW9] at B9 NS NH
          rw [unhide HQN] at NS
          have HNS := hide NS
          have HNH := hide NH
          have HB9 := hide B9
          clear XT9 XH9 B9 NS NH hv_1 hr9
          refine wpTill_one (k := 7) (by kernel_rfl) rfl (fun K hK => ?_)
          (try simp only [List.getElem_toArray, List.getElem_cons_succ, List.getElem_cons_zero])
          go_simp
          refine hK.out _ _ (fun h => absurd (h.symm.trans (by kernel_rfl)) Bool.false_ne_true) ?_
          clear hK K
          (try simp only [Act.put, List.setIfInBounds_toArray, List.set_cons_zero, List.set_cons_succ])
          refine wpTill_done (by kernel_rfl) ?_ _
          clear hC0 hC_1 cc_1 bd0 hb_1 l0 l1 l2 y0 y1 y2 hW9 HCC2 HTB HXT HXH4
          go_wp2_with fail
          exact ⟨⟨n1, t9, by go_num, hn1l, fun m hm => by
            have := unhide HN1
            by_cases e : m = n
            · rw [e, unhide HN1]; exact unhide HGT
            · exact unhide HMO m (by omega), unhide HNS, unhide HNH, unhide HB9⟩, by have := unhide HN1; simp [intOf]; omega⟩
        · have hcv := (cmpv_le (a := 1 - Bth.ps (fun i => qs[i]!) n1) (b := sh) (by grind)).2
          obtain ⟨cv, hcv_⟩ : ∃ x, cmpv (1 - Bth.ps (fun i => qs[i]!) n1) sh = x := ⟨_, rfl⟩
          rw [hcv_] at HCM hcv
          have hcv0 : ¬ 0 < cv := by omega
          have HLW : Hid (LwIs qs sh n) := ⟨by rw [unhide HKL]; exact hn, unhide HMO, by rw [unhide HN1]; exact hgt⟩
          clear hgt hcv hcv_
          go_wp2_with fail
          clear x0 x1 x2 x3 x4 x5
          refine (unhide HCM).mono ?_
          rintro e w4 ⟨rfl, hb4⟩
          have HBF := hide (below_step (unhide HB0) (below_step (unhide HBr) hb4))
          clear hb4 HCM
          go_wp2
          go_ret2
          exact ⟨n, rfl, unhide HLW, unhide HBF⟩
end Go.Proofs.Ytfnbjenneodcdaa
