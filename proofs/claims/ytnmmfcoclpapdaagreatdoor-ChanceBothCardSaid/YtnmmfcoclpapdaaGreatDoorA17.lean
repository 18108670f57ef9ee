/- chance.Least. -/
import Derived.Test.YtnmmfcoclpapdaaGreatDoorA16
import Derived.BigQuiet
namespace Go.Proofs.YtnmmfcoclpapdaaGreatDoor
open Go.RowKit Go.Sort Go.Shelf

theorem sgl_neg {x y : Int} : Wd.sg x y < 0 ↔ x < y := by
  unfold Wd.sg
  split
  · simp [*]
  · split
    · simp [*]
    · constructor
      · intro h; omega
      · intro h; omega
theorem sgl_pos {x y : Int} : 0 < Wd.sg x y ↔ y < x := by
  unfold Wd.sg
  split
  · constructor
    · intro h; omega
    · intro h; omega
  · split
    · constructor
      · intro h; omega
      · intro h; omega
    · constructor
      · intro h; omega
      · intro h; omega

/-- Two boxes of fractions: what is asked for, and the sum so far. -/
structure LeastAt (w wr : World) (G : Nat) (tc t : Tri) (qc q : Rat) : Prop where
  ch : wr.heap[w.heap.size]? = some (.cells #[.bool tc.s, .slice tc.a1 tc.n1 tc.c1, .slice tc.a2 tc.n2 tc.c2] 27)
  all : wr.heap[G]? = some (.cells #[.bool t.s, .slice t.a1 t.n1 t.c1, .slice t.a2 t.n2 t.c2] 27)
  rc : RatIs wr tc.val qc
  rat : RatIs wr t.val q
  bl : Below w.heap.size w wr
  gl : w.heap.size < G

theorem LeastAt.keep {w wr w' : World} {G : Nat} {tc t : Tri} {qc q : Rat} (h : LeastAt w wr G tc t qc q) (hb : Below wr.heap.size wr w') : LeastAt w w' G tc t qc q := by
  have l1 := (Array.getElem?_eq_some_iff.1 h.ch).1
  have l2 := (Array.getElem?_eq_some_iff.1 h.all).1
  exact ⟨by rw [hb.block _ l1]; exact h.ch, by rw [hb.block _ l2]; exact h.all, h.rc.below hb, h.rat.below hb, below_step h.bl hb, h.gl⟩

theorem LeastAt.set {w wr : World} {G : Nat} {tc t t' : Tri} {qc q q' : Rat} (h : LeastAt w wr G tc t qc q) (hr : RatIs wr t'.val q') :
    LeastAt w (((wr.setCell ⟨G, 0, none⟩ (.bool t'.s)).setCell ⟨G, 1, none⟩ (.slice t'.a1 t'.n1 t'.c1)).setCell ⟨G, 2, none⟩ (.slice t'.a2 t'.n2 t'.c2)) G tc t' qc q' := by
  have rb := rat_boxed (w0 := w) hr h.all h.bl (Nat.le_of_lt h.gl) (.bool t'.s) (.slice t'.a1 t'.n1 t'.c1) (.slice t'.a2 t'.n2 t'.c2)
  have rc := rat_boxed (w0 := w) h.rc h.all h.bl (Nat.le_of_lt h.gl) (.bool t'.s) (.slice t'.a1 t'.n1 t'.c1) (.slice t'.a2 t'.n2 t'.c2)
  have ne : w.heap.size ≠ G := Nat.ne_of_lt h.gl
  refine ⟨?_, box_set h.all, rc.1, rb.1, rb.2, h.gl⟩
  rw [Below.heap_setCell _ _ _ _ ne, Below.heap_setCell _ _ _ _ ne, Below.heap_setCell _ _ _ _ ne]
  exact h.ch

theorem chk_zero {qs : List Rat} (h : chk qs = 0) : 0 < qs.length ∧ qs.length ≤ 101 ∧ (∀ j, j < qs.length → 0 ≤ qs[j]!.num) ∧ qsum qs qs.length = 1 := by
  unfold chk at h
  split at h
  · omega
  · rename_i h1
    split at h
    · omega
    · rename_i h2
      split at h
      · rename_i h3
        exact ⟨by omega, by omega, fun j hj => Int.not_lt.1 (fun hn => h2 ⟨j, hj, hn⟩), h3⟩
      · omega

/-- What Least says. -/
def LeastSays (qs : List Rat) (qc : Rat) (n k : Int) : Prop := (k = if chk qs ≠ 0 then chk qs else if qc.num ≤ 0 ∨ (qc.den : Int) < qc.num then 2 else 0) ∧ (k ≠ 0 → n = 0) ∧ (k = 0 → ∃ m : Nat, n = m ∧ m < qs.length ∧ qsum qs m < qc ∧ qc ≤ qsum qs (m + 1))

set_option maxHeartbeats 4000000 in
set_option maxRecDepth 100000 in
set_option linter.unusedSimpArgs false in
theorem least_any (v vc : Value) (qs : List Rat) (qc : Rat) (J : Nat) (w : World) (h : LawIs w v qs) (hc : RatIs w vc qc) (hq : ∀ j, j < qs.length → RS qs[j]! J) (hJ : (qs.length * (J + 1) + 1 + J) + (qs.length * (J + 1) + 1 + J) + 1 ≤ KK) (hqc : RS qc J) (hJK : J ≤ KK) :
    Calls Tryz.prog 58 #[v, vc] w fun e w' => ∃ (n : Int) (k : Int), e = .returned (.tuple #[.int .i64 n, errV k]) ∧ LeastSays qs qc n k ∧ Below w.heap.size w w' := by
  obtain ⟨tc, rfl, hrc⟩ := tri_of hc
  obtain ⟨W, hW⟩ : ∃ W, w.alloc (.cells #[.bool tc.s, .slice tc.a1 tc.n1 tc.c1, .slice tc.a2 tc.n2 tc.c2] 27) = W := ⟨_, rfl⟩
  have hbW : Below w.heap.size w W := by rw [← hW]; exact alloc_below _ _
  have hch : ∀ w', Below W.heap.size W w' → w'.heap[w.heap.size]? = some (.cells #[.bool tc.s, .slice tc.a1 tc.n1 tc.c1, .slice tc.a2 tc.n2 tc.c2] 27) := fun w' hb => by
    rw [hb.block w.heap.size (by rw [← hW, alloc_heap, Array.size_push]; omega), ← hW]
    exact heap_alloc_new w _
  have HCH := hide hch
  have HBW := hide hbW
  have HC := hide (hrc.below hbW)
  have HL := hide (h.below hbW)
  have HCK := hide (check_any v qs J W (h.below hbW) hq hJ)
  have h' := h
  obtain ⟨a, c, rfl, h1, h2, h3⟩ := h'
  have H3 := hide h3
  have HQ := hide hq
  have HWE := hide hW
  have HQC := hide hqc
  simp only [Tri.val]
  clear h3 hq hc hrc hW h hbW hch hqc
  go_enter Tryz.func58, Tryz.ntmps58
  go_wp2_with fail
  rw [unhide HWE]
  refine (unhide HCK).mono ?_
  rintro e w1 ⟨rfl, hb1⟩
  obtain ⟨k1, hk1⟩ : ∃ k, chk qs = k := ⟨_, rfl⟩
  rw [hk1]
  by_cases hk : k1 = 0
  rotate_left
  · have he : errV k1 = .iface 35 (.int .i64 k1) := by unfold errV; rw [if_neg hk]
    rw [he]
    have HE := hide he
    have SAY : Hid (LeastSays qs qc 0 k1) := ⟨by rw [hk1, if_pos hk], fun _ => rfl, fun h => absurd h hk⟩
    have HB := hide (below_step (unhide HBW) hb1)
    clear he hk hb1 H3 HQ HCK
    go_wp2
    go_ret2
    exact ⟨0, k1, by rw [unhide HE]; rfl, unhide SAY, unhide HB⟩
  subst hk
  have he : errV 0 = .nilIface := by unfold errV; rw [if_pos rfl]
  rw [he]
  have ⟨z1, z2, z3, z4⟩ := chk_zero hk1
  have HZ := hide z4
  have S2 : ∀ (_ : qc.num ≤ 0 ∨ (qc.den : Int) < qc.num), LeastSays qs qc 0 2 := fun h => ⟨by rw [hk1, if_neg (fun h => h rfl), if_pos h], fun _ => rfl, fun h => absurd h (by decide)⟩
  have HS2 := hide S2
  have HK1 := hide hk1
  obtain ⟨b, o, rfl, hblt, hcs⟩ := unhide H3 z1
  have HCS := hide hcs
  clear z3 z4 he S2 hk1 hcs H3
  have ⟨c0, c1, c2, _, _, _⟩ := box_cell (unhide HCH _ hb1)
  have HSG := hide (sign_any _ qc w1.drew ((unhide HC).below (hb1.drew)))
  have HB1 := hide hb1
  clear HCK hb1
  go_wp2_with fail
  refine wp_region_till (fun w' => w'.cell? ⟨w.heap.size, 0, none⟩ = some (.bool tc.s) ∧ w'.cell? ⟨w.heap.size, 1, none⟩ = some (.slice tc.a1 tc.n1 tc.c1) ∧ w'.cell? ⟨w.heap.size, 2, none⟩ = some (.slice tc.a2 tc.n2 tc.c2)) 6 (by kernel_rfl) ?_
  have hC0 : (fun w' : World => w'.cell? ⟨w.heap.size, 0, none⟩ = some (.bool tc.s) ∧ w'.cell? ⟨w.heap.size, 1, none⟩ = some (.slice tc.a1 tc.n1 tc.c1) ∧ w'.cell? ⟨w.heap.size, 2, none⟩ = some (.slice tc.a2 tc.n2 tc.c2)) w1.drew := ⟨c0, c1, c2⟩
  refine wpTill_one (k := 0) (by kernel_rfl) rfl (fun K hK => ?_)
  (try simp only [List.getElem_toArray, List.getElem_cons_succ, List.getElem_cons_zero])
  go_simp
  refine hK.out _ _ (fun _ => hC0) ?_
  clear hK K
  (try simp only [Act.put, List.setIfInBounds_toArray, List.set_cons_zero, List.set_cons_succ])
  refine wpTill_one (k := 1) (by kernel_rfl) rfl (fun K hK => ?_)
  (try simp only [List.getElem_toArray, List.getElem_cons_succ, List.getElem_cons_zero])
  go_simp
  refine (unhide HSG).mono ?_
  rintro e w2 ⟨rfl, hb2⟩
  have b2 := below_step (unhide HB1) (below_step (Below.refl _ _).drew hb2)
  have ⟨d0, d1, d2, _, _, _⟩ := box_cell (unhide HCH _ b2)
  have hC2 : (fun w' : World => w'.cell? ⟨w.heap.size, 0, none⟩ = some (.bool tc.s) ∧ w'.cell? ⟨w.heap.size, 1, none⟩ = some (.slice tc.a1 tc.n1 tc.c1) ∧ w'.cell? ⟨w.heap.size, 2, none⟩ = some (.slice tc.a2 tc.n2 tc.c2)) w2 := ⟨d0, d1, d2⟩
  refine hK.out _ _ (fun _ => hC2) ?_
  clear hK K
  (try simp only [Act.put, List.setIfInBounds_toArray, List.set_cons_zero, List.set_cons_succ])
  have hsgn : (qc.num.sign ≤ 0 ↔ qc.num ≤ 0) := by
    rcases Int.lt_trichotomy qc.num 0 with h | h | h
    · rw [Int.sign_eq_neg_one_of_neg h]; omega
    · rw [h]; decide
    · rw [Int.sign_eq_one_of_pos h]; omega
  have hsb := sign_bd qc.num
  obtain ⟨x, hx⟩ : ∃ x, qc.num.sign = x := ⟨_, rfl⟩
  rw [hx] at hsgn hsb ⊢
  obtain ⟨hsb0, hsb1⟩ := hsb
  by_cases hx0 : x ≤ 0
  · have HX := hide (hsgn.1 hx0)
    have hd : decide (x ≤ 0) = true := decide_eq_true hx0
    clear hsgn hx
    refine wpTill_one (k := 2) (by kernel_rfl) rfl (fun K hK => ?_)
    (try simp only [List.getElem_toArray, List.getElem_cons_succ, List.getElem_cons_zero])
    go_simp
    refine hK.out _ _ (fun _ => hC2) ?_
    clear hK K
    (try simp only [Act.put, List.setIfInBounds_toArray, List.set_cons_zero, List.set_cons_succ])
    refine wpTill_one (k := 3) (by kernel_rfl) rfl (fun K hK => ?_)
    (try simp only [List.getElem_toArray, List.getElem_cons_succ, List.getElem_cons_zero])
    go_simp
    refine hK.out _ _ (fun _ => hC2) ?_
    clear hK K
    (try simp only [Act.put, List.setIfInBounds_toArray, List.set_cons_zero, List.set_cons_succ])
    refine wpTill_take (i := 4) (v := undef) rfl (by kernel_rfl) (by kernel_rfl) (by kernel_rfl) (by kernel_rfl) (by kernel_rfl) (by kernel_rfl) (fun _ _ _ h => h) (Or.inr ⟨by rfl, rfl⟩) hC2 ?_
    (try simp only [List.getElem_toArray, List.getElem_cons_succ, List.getElem_cons_zero])
    (try simp only [Act.put, List.setIfInBounds_toArray, List.set_cons_zero, List.set_cons_succ])
    refine wpTill_one (k := 5) (by kernel_rfl) rfl (fun K hK => ?_)
    (try simp only [List.getElem_toArray, List.getElem_cons_succ, List.getElem_cons_zero])
    go_simp
    refine hK.out _ _ (fun _ => hC2) ?_
    clear hK K
    (try simp only [Act.put, List.setIfInBounds_toArray, List.set_cons_zero, List.set_cons_succ])
    refine wpTill_one (k := 6) (by kernel_rfl) rfl (fun K hK => ?_)
    (try simp only [List.getElem_toArray, List.getElem_cons_succ, List.getElem_cons_zero])
    go_simp
    refine hK.out _ _ (fun h => absurd (h.symm.trans (by kernel_rfl)) Bool.false_ne_true) ?_
    clear hK K
    (try simp only [Act.put, List.setIfInBounds_toArray, List.set_cons_zero, List.set_cons_succ])
    refine wpTill_one (k := 7) (by kernel_rfl) rfl (fun K hK => ?_)
    (try simp only [List.getElem_toArray, List.getElem_cons_succ, List.getElem_cons_zero])
    go_simp
    refine hK.out _ _ (fun h => absurd (h.symm.trans (by kernel_rfl)) Bool.false_ne_true) ?_
    clear hK K
    (try simp only [Act.put, List.setIfInBounds_toArray, List.set_cons_zero, List.set_cons_succ])
    refine wpTill_one (k := 8) (by kernel_rfl) rfl (fun K hK => ?_)
    (try simp only [List.getElem_toArray, List.getElem_cons_succ, List.getElem_cons_zero])
    go_simp
    refine hK.out _ _ (fun h => absurd (h.symm.trans (by kernel_rfl)) Bool.false_ne_true) ?_
    clear hK K
    (try simp only [Act.put, List.setIfInBounds_toArray, List.set_cons_zero, List.set_cons_succ])
    refine wpTill_done (by kernel_rfl) ?_ _
    have B2 := hide (below_step (unhide HBW) b2)
    clear hC0 hC2 b2 hb2 HCS HQ HL
    go_wp2
    go_ret2
    exact ⟨0, 2, rfl, unhide HS2 (Or.inl (unhide HX)), unhide B2⟩
  have hx1 : ¬ qc.num ≤ 0 := fun h => hx0 (hsgn.2 h)
  have hd : decide (x ≤ 0) = false := decide_eq_false hx0
  clear hsgn hx
  refine wpTill_one (k := 2) (by kernel_rfl) rfl (fun K hK => ?_)
  (try simp only [List.getElem_toArray, List.getElem_cons_succ, List.getElem_cons_zero])
  go_simp
  refine hK.out _ _ (fun _ => hC2) ?_
  clear hK K
  (try simp only [Act.put, List.setIfInBounds_toArray, List.set_cons_zero, List.set_cons_succ])
  refine wpTill_one (k := 3) (by kernel_rfl) rfl (fun K hK => ?_)
  (try simp only [List.getElem_toArray, List.getElem_cons_succ, List.getElem_cons_zero])
  go_simp
  refine hK.out _ _ (fun _ => hC2) ?_
  clear hK K
  (try simp only [Act.put, List.setIfInBounds_toArray, List.set_cons_zero, List.set_cons_succ])
  refine wpTill_take (i := 4) (v := ?_) rfl (by kernel_rfl) (by kernel_rfl) (by kernel_rfl) (by kernel_rfl) (by kernel_rfl) (by kernel_rfl) (fun _ _ _ h => h) (Or.inl ⟨by rfl, ?_⟩) hC2 ?_
  rotate_left
  · intro w hSw; (try dsimp only at hSw); obtain ⟨z0, z1, z2⟩ := hSw; go_simp; (try with_reducible rfl)
  (try simp only [List.getElem_toArray, List.getElem_cons_succ, List.getElem_cons_zero])
  (try simp only [Act.put, List.setIfInBounds_toArray, List.set_cons_zero, List.set_cons_succ])
  refine wpTill_one (k := 5) (by kernel_rfl) rfl (fun K hK => ?_)
  (try simp only [List.getElem_toArray, List.getElem_cons_succ, List.getElem_cons_zero])
  go_simp
  refine (whole_any 1 (by decide) (by decide) w2).mono ?_
  rintro e w5 ⟨v5, rfl, hv5, hb5⟩
  obtain ⟨t5, rfl, hr5⟩ := tri_of hv5
  have b5 := below_step b2 hb5
  have ⟨e0, e1, e2, _, _, _⟩ := box_cell (unhide HCH _ b5)
  have hC5 : (fun w' : World => w'.cell? ⟨w.heap.size, 0, none⟩ = some (.bool tc.s) ∧ w'.cell? ⟨w.heap.size, 1, none⟩ = some (.slice tc.a1 tc.n1 tc.c1) ∧ w'.cell? ⟨w.heap.size, 2, none⟩ = some (.slice tc.a2 tc.n2 tc.c2)) w5 := ⟨e0, e1, e2⟩
  have sc1 : Sm (qc.num.natAbs : Int) := sm_of (unhide HQC).1 hJK
  have sc2 : Sm (qc.den : Int) := sm_of (unhide HQC).2 hJK
  have HCM := hide (cmpR_any _ _ _ _ w5 ((unhide HC).below b5) hr5 sc1 (sm_word (by decide)) sc2 (sm_word (by decide)))
  obtain ⟨g1, hg1⟩ : ∃ g, Wd.sg (qc.num * ((1 : Int) : Rat).den) (((1 : Int) : Rat).num * qc.den) = g := ⟨_, rfl⟩
  have hgp : 0 < g1 ↔ (qc.den : Int) < qc.num := by
    rw [← hg1, sgl_pos]
    show 1 * (qc.den : Int) < qc.num * 1 ↔ _
    rw [Int.one_mul, Int.mul_one]
  have hgr := sg_range (qc.num * ((1 : Int) : Rat).den) (((1 : Int) : Rat).num * qc.den)
  rw [hg1] at HCM hgr
  obtain ⟨hgr0, hgr1⟩ := hgr
  simp only [Tri.val]
  clear hC0 hC2 b2 hb2 hb5 hv5 hr5 hg1 d0 d1 d2 c0 c1 c2 hd
  refine hK.out _ _ (fun _ => hC5) ?_
  clear hK K
  (try simp only [Act.put, List.setIfInBounds_toArray, List.set_cons_zero, List.set_cons_succ])
  refine wpTill_one (k := 6) (by kernel_rfl) rfl (fun K hK => ?_)
  (try simp only [List.getElem_toArray, List.getElem_cons_succ, List.getElem_cons_zero])
  go_simp
  refine (unhide HCM).mono ?_
  rintro e w6 ⟨rfl, hb6⟩
  have b6 := below_step b5 hb6
  by_cases hg : 0 < g1
  · have hdg : decide (0 < g1) = true := decide_eq_true hg
    have HX := hide (hgp.1 hg)
    have B6 := hide (below_step (unhide HBW) b6)
    clear hgp hg
    refine hK.out _ _ (fun h => absurd (h.symm.trans (by kernel_rfl)) Bool.false_ne_true) ?_
    clear hK K
    (try simp only [Act.put, List.setIfInBounds_toArray, List.set_cons_zero, List.set_cons_succ])
    refine wpTill_one (k := 7) (by kernel_rfl) rfl (fun K hK => ?_)
    (try simp only [List.getElem_toArray, List.getElem_cons_succ, List.getElem_cons_zero])
    go_simp
    refine hK.out _ _ (fun h => absurd (h.symm.trans (by kernel_rfl)) Bool.false_ne_true) ?_
    clear hK K
    (try simp only [Act.put, List.setIfInBounds_toArray, List.set_cons_zero, List.set_cons_succ])
    refine wpTill_one (k := 8) (by kernel_rfl) rfl (fun K hK => ?_)
    (try simp only [List.getElem_toArray, List.getElem_cons_succ, List.getElem_cons_zero])
    go_simp
    refine hK.out _ _ (fun h => absurd (h.symm.trans (by kernel_rfl)) Bool.false_ne_true) ?_
    clear hK K
    (try simp only [Act.put, List.setIfInBounds_toArray, List.set_cons_zero, List.set_cons_succ])
    refine wpTill_done (by kernel_rfl) ?_ _
    clear hC5 b5 b6 hb6 HCS HQ HL HCM
    go_wp2
    go_ret2
    exact ⟨0, 2, rfl, unhide HS2 (Or.inr (unhide HX)), unhide B6⟩
  have hdg : decide (0 < g1) = false := decide_eq_false hg
  have hno : ¬ (qc.num ≤ 0 ∨ (qc.den : Int) < qc.num) := fun h => h.elim hx1 (fun h => hg (hgp.2 h))
  have HNO := hide hno
  clear hgp hg hno
  refine hK.out _ _ (fun h => absurd (h.symm.trans (by kernel_rfl)) Bool.false_ne_true) ?_
  clear hK K
  (try simp only [Act.put, List.setIfInBounds_toArray, List.set_cons_zero, List.set_cons_succ])
  refine wpTill_one (k := 7) (by kernel_rfl) rfl (fun K hK => ?_)
  (try simp only [List.getElem_toArray, List.getElem_cons_succ, List.getElem_cons_zero])
  go_simp
  refine hK.out _ _ (fun h => absurd (h.symm.trans (by kernel_rfl)) Bool.false_ne_true) ?_
  clear hK K
  (try simp only [Act.put, List.setIfInBounds_toArray, List.set_cons_zero, List.set_cons_succ])
  refine wpTill_one (k := 8) (by kernel_rfl) rfl (fun K hK => ?_)
  (try simp only [List.getElem_toArray, List.getElem_cons_succ, List.getElem_cons_zero])
  go_simp
  refine hK.out _ _ (fun h => absurd (h.symm.trans (by kernel_rfl)) Bool.false_ne_true) ?_
  clear hK K
  (try simp only [Act.put, List.setIfInBounds_toArray, List.set_cons_zero, List.set_cons_succ])
  refine wpTill_done (by kernel_rfl) ?_ _
  clear hC5 b5 hb6 HCM
  obtain ⟨s', y1, y2, m1, e1', m2, e2', k0, k1, k2, r⟩ := unhide HCS 0 z1
  obtain ⟨t0, rfl, rfl, rfl, rfl, rfl, rfl, rfl⟩ : ∃ t : Tri, s' = t.s ∧ y1 = t.a1 ∧ y2 = t.a2 ∧ m1 = t.n1 ∧ e1' = t.c1 ∧ m2 = t.n2 ∧ e2' = t.c2 := ⟨⟨s', y1, y2, m1, e1', m2, e2'⟩, rfl, rfl, rfl, rfl, rfl, rfl, rfl⟩
  have bw6 := below_step (unhide HBW) b6
  rw [← bw6.cell (p := ⟨b, o + 0 * 3, none⟩) hblt, Nat.zero_mul, Nat.add_zero] at k0
  rw [← bw6.cell (p := ⟨b, o + 0 * 3 + 1, none⟩) hblt, Nat.zero_mul, Nat.add_zero] at k1
  rw [← bw6.cell (p := ⟨b, o + 0 * 3 + 2, none⟩) hblt, Nat.zero_mul, Nat.add_zero] at k2
  have hi1 : (0 : Int) < (qs.length : Int) := by omega
  have hblr : b < w6.drew.heap.size := Nat.lt_of_lt_of_le hblt bw6.size
  have HR0 := hide (r.below bw6)
  have HB6 := hide b6
  have HZ1 := hide z1
  have HZ2 := hide z2
  clear r b6 bw6 e0 e1 e2 z1 z2 hx0 hsb0 hsb1 hx1 hgr0 hgr1 sc1 sc2
  go_wp2_with fail
  refine wp_region_till (fun w' => w'.cell? ⟨b, o, none⟩ = some (.bool t0.s) ∧ w'.cell? ⟨b, o + 1, none⟩ = some (.slice t0.a1 t0.n1 t0.c1) ∧ w'.cell? ⟨b, o + 2, none⟩ = some (.slice t0.a2 t0.n2 t0.c2)) 5 (by kernel_rfl) ?_
  have hC0 : (fun w' : World => w'.cell? ⟨b, o, none⟩ = some (.bool t0.s) ∧ w'.cell? ⟨b, o + 1, none⟩ = some (.slice t0.a1 t0.n1 t0.c1) ∧ w'.cell? ⟨b, o + 2, none⟩ = some (.slice t0.a2 t0.n2 t0.c2)) w6.drew := ⟨k0, k1, k2⟩
  refine wpTill_pure (i := 0) (v := ?_) rfl (by kernel_rfl) (by kernel_rfl) (by kernel_rfl) (by kernel_rfl) (fun _ _ _ h => h) (Or.inl ⟨by rfl, ?_⟩) (fun _ => hC0) ?_
  rotate_left
  · intro w hSw; clear hSw; go_simp; (try with_reducible rfl)
  (try simp only [List.getElem_toArray, List.getElem_cons_succ, List.getElem_cons_zero])
  (try simp only [Act.put, List.setIfInBounds_toArray, List.set_cons_zero, List.set_cons_succ])
  refine wpTill_pure (i := 1) (v := ?_) rfl (by kernel_rfl) (by kernel_rfl) (by kernel_rfl) (by kernel_rfl) (fun _ _ _ h => h) (Or.inl ⟨by rfl, ?_⟩) (fun _ => hC0) ?_
  rotate_left
  · intro w hSw; clear hSw; have hz := unhide HZ1; go_simp; (try with_reducible rfl)
  (try simp only [List.getElem_toArray, List.getElem_cons_succ, List.getElem_cons_zero])
  (try simp only [Act.put, List.setIfInBounds_toArray, List.set_cons_zero, List.set_cons_succ])
  refine wpTill_take (i := 2) (v := ?_) rfl (by kernel_rfl) (by kernel_rfl) (by kernel_rfl) (by kernel_rfl) (by kernel_rfl) (by kernel_rfl) (fun _ _ _ h => h) (Or.inl ⟨by rfl, ?_⟩) hC0 ?_
  rotate_left
  · intro w hSw; (try dsimp only at hSw); obtain ⟨z0, z1, z2⟩ := hSw; go_simp; (try with_reducible rfl)
  (try simp only [List.getElem_toArray, List.getElem_cons_succ, List.getElem_cons_zero])
  (try simp only [Act.put, List.setIfInBounds_toArray, List.set_cons_zero, List.set_cons_succ])
  refine wpTill_one (k := 3) (by kernel_rfl) rfl (fun K hK => ?_)
  (try simp only [List.getElem_toArray, List.getElem_cons_succ, List.getElem_cons_zero])
  go_simp
  have hC3 : (fun w' : World => w'.cell? ⟨b, o, none⟩ = some (.bool t0.s) ∧ w'.cell? ⟨b, o + 1, none⟩ = some (.slice t0.a1 t0.n1 t0.c1) ∧ w'.cell? ⟨b, o + 2, none⟩ = some (.slice t0.a2 t0.n2 t0.c2)) (w6.alloc (.cells #[.bool false, .slice none 0 0, .slice none 0 0] 27)).drew := by
    have hal := alloc_below w6 (.cells #[.bool false, .slice none 0 0, .slice none 0 0] 27)
    refine ⟨?_, ?_, ?_⟩
    · exact (hal.cell (p := ⟨b, o, none⟩) hblr).trans k0
    · exact (hal.cell (p := ⟨b, o + 1, none⟩) hblr).trans k1
    · exact (hal.cell (p := ⟨b, o + 2, none⟩) hblr).trans k2
  refine hK.out _ _ (fun _ => hC3) ?_
  clear hK K
  (try simp only [Act.put, List.setIfInBounds_toArray, List.set_cons_zero, List.set_cons_succ])
  refine wpTill_one (k := 4) (by kernel_rfl) rfl (fun K hK => ?_)
  (try simp only [List.getElem_toArray, List.getElem_cons_succ, List.getElem_cons_zero])
  go_simp
  refine hK.out _ _ (fun _ => hC3) ?_
  clear hK K
  (try simp only [Act.put, List.setIfInBounds_toArray, List.set_cons_zero, List.set_cons_succ])
  refine wpTill_one (k := 5) (by kernel_rfl) rfl (fun K hK => ?_)
  (try simp only [List.getElem_toArray, List.getElem_cons_succ, List.getElem_cons_zero])
  go_simp
  refine hK.out _ _ (fun h => absurd (h.symm.trans (by kernel_rfl)) Bool.false_ne_true) ?_
  clear hK K
  (try simp only [Act.put, List.setIfInBounds_toArray, List.set_cons_zero, List.set_cons_succ])
  refine wpTill_done (by kernel_rfl) ?_ _
  have hszW : w.heap.size < w6.heap.size := by
    have := (unhide HB6).size
    rw [← unhide HWE, alloc_heap, Array.size_push] at this
    omega
  have b6' : Below W.heap.size W (w6.alloc (.cells #[.bool t0.s, .slice t0.a1 t0.n1 t0.c1, .slice t0.a2 t0.n2 t0.c2] 27)).drew := (below_step (unhide HB6) (alloc_below w6 _)).drew
  have LS : LeastAt w (w6.alloc (.cells #[.bool t0.s, .slice t0.a1 t0.n1 t0.c1, .slice t0.a2 t0.n2 t0.c2] 27)).drew w6.heap.size tc t0 qc (qsum qs (0 + 1)) := by
    refine ⟨unhide HCH _ b6', heap_alloc_new w6 _, (unhide HC).below b6', ?_, below_step (unhide HBW) b6', hszW⟩
    have e : qsum qs (0 + 1) = qs[0]! := by show (0 : Rat) + qs[0]! = _; rw [Rat.zero_add]
    rw [e]
    exact (unhide HR0).below (alloc_below w6 _).drew
  have HLS := hide LS
  have hq0 : qsum qs 0 < qc := by
    show (0 : Rat) < qc
    rw [Rat.lt_iff]
    have := unhide HNO
    show 0 * (qc.den : Int) < qc.num * 1
    omega
  have HQ0 := hide hq0
  obtain ⟨G, hG⟩ : ∃ G, w6.heap.size = G := ⟨_, rfl⟩
  obtain ⟨W6, hW6⟩ : ∃ W6, (w6.alloc (.cells #[.bool t0.s, .slice t0.a1 t0.n1 t0.c1, .slice t0.a2 t0.n2 t0.c2] 27)).drew = W6 := ⟨_, rfl⟩
  rw [hG, hW6] at HLS
  have HG := hide hG
  have HW6 := hide hW6
  clear hC0 hC3 k0 k1 k2 hszW b6' LS hq0 hG hW6
  go_wp2_with fail
  rw [unhide HW6, unhide HG]
  go_loopw [7] (fun vi wr => ∃ (i : Nat) (t : Tri), vi = .int .i64 i ∧ i < qs.length ∧ LeastAt w wr G tc t qc (qsum qs (i + 1)) ∧ qsum qs i < qc) (fun vi _ => qs.length - (intOf vi).toNat)
  case atStart => exact ⟨0, t0, rfl, unhide HZ1, unhide HLS, unhide HQ0⟩
  case round =>
    obtain ⟨i, t, rfl, hi, T, hlo⟩ := hrel
    have ⟨g0, g1', g2, f0, f1, f2⟩ := box_cell T.all
    have ⟨c0, c1, c2, _, _, _⟩ := box_cell T.ch
    have hmul : (i + 1) * (J + 1) ≤ qs.length * (J + 1) := Nat.mul_le_mul_right (J + 1) hi
    have hrs := qsum_RS (unhide HQ) (i + 1) hi
    have s1 : Sm ((qsum qs (i + 1)).num.natAbs : Int) := sm_of hrs.1 (by omega)
    have s2 : Sm ((qsum qs (i + 1)).den : Int) := sm_of hrs.2 (by omega)
    have HCM := hide (cmpR_any _ _ _ _ wr T.rat T.rc s1 (sm_of (unhide HQC).1 hJK) s2 (sm_of (unhide HQC).2 hJK))
    obtain ⟨g, hg⟩ : ∃ g, Wd.sg ((qsum qs (i + 1)).num * qc.den) (qc.num * (qsum qs (i + 1)).den) = g := ⟨_, rfl⟩
    have hgn : g < 0 ↔ qsum qs (i + 1) < qc := by rw [← hg, sgl_neg, Rat.lt_iff]
    have hgr := sg_range ((qsum qs (i + 1)).num * qc.den) (qc.num * (qsum qs (i + 1)).den)
    rw [hg] at HCM hgr
    obtain ⟨hgr0, hgr1⟩ := hgr
    have HT := hide T
    have HLO := hide hlo
    have HRS := hide hrs
    have hi1 : (i : Int) < (qs.length : Int) := by omega
    have hi0 : (0 : Int) ≤ (i : Int) := by omega
    simp only [Tri.val] at HCM
    clear T hlo hrs s1 s2 hg HLS HQ0 HR0 HSG HCH
    by_cases hlt : qsum qs (i + 1) < qc
    · have hdl : decide (g < 0) = true := decide_eq_true (hgn.2 hlt)
      have hi2 : i + 1 < qs.length := by
        rcases Nat.lt_or_ge (i + 1) qs.length with h | h
        · exact h
        · have e : i + 1 = qs.length := by omega
          rw [e, unhide HZ, Rat.lt_iff] at hlt
          exact absurd (Or.inr (by have : 1 * (qc.den : Int) < qc.num * 1 := hlt; omega)) (unhide HNO)
      obtain ⟨s', b1, b2, m1, d1, m2, d2, k0, k1, k2, r⟩ := unhide HCS (i + 1) hi2
      have HLT := hide hlt
      have hgneg : g < 0 := hgn.2 hlt
      clear hgn hlt
      go_wp2_with fail
      refine (unhide HCM).mono ?_
      rintro e w7 ⟨rfl, hb7⟩
      have T7 := (unhide HT).keep hb7
      have ⟨p0, p1, p2, q0, q1, q2⟩ := box_cell T7.all
      rw [← T7.bl.cell (p := ⟨b, o + (i + 1) * 3, none⟩) hblt] at k0
      rw [← T7.bl.cell (p := ⟨b, o + (i + 1) * 3 + 1, none⟩) hblt] at k1
      rw [← T7.bl.cell (p := ⟨b, o + (i + 1) * 3 + 2, none⟩) hblt] at k2
      have hblr7 : b < w7.drew.heap.size := Nat.lt_of_lt_of_le hblt T7.bl.size
      have HAD := hide (addR_any _ _ (qsum qs (i + 1)) qs[i + 1]! w7.drew (T7.rat.below (Below.refl _ _).drew) ((r.below T7.bl).below (Below.refl _ _).drew) (qs.length * (J + 1) + 1 + J) ((unhide HRS).mono (by omega)) ((unhide HQ (i + 1) hi2).mono (by omega)) hJ)
      simp only [Tri.val] at HAD
      have HT7 := hide T7
      have hj0 : (0 : Int) ≤ (i : Int) + 1 := by omega
      have hj1 : (i : Int) + 1 < (qs.length : Int) := by omega
      have ht1 : ((i : Int) + 1).toNat = i + 1 := by omega
      clear T7 r g0 g1' g2 f0 f1 f2 hb7 c0 c1 c2 HCM hmul hgr0 hgr1 hgneg
      go_wp2_with fail
      refine wp_region_till (fun w' => w'.cell? ⟨G, 0, none⟩ = some (.bool t.s) ∧ w'.cell? ⟨G, 1, none⟩ = some (.slice t.a1 t.n1 t.c1) ∧ w'.cell? ⟨G, 2, none⟩ = some (.slice t.a2 t.n2 t.c2) ∧ w'.cell? ⟨b, o + (i + 1) * 3, none⟩ = some (.bool s') ∧ w'.cell? ⟨b, o + (i + 1) * 3 + 1, none⟩ = some (.slice b1 m1 d1) ∧ w'.cell? ⟨b, o + (i + 1) * 3 + 2, none⟩ = some (.slice b2 m2 d2)) 6 (by kernel_rfl) ?_
      have hC0 : (fun w' : World => w'.cell? ⟨G, 0, none⟩ = some (.bool t.s) ∧ w'.cell? ⟨G, 1, none⟩ = some (.slice t.a1 t.n1 t.c1) ∧ w'.cell? ⟨G, 2, none⟩ = some (.slice t.a2 t.n2 t.c2) ∧ w'.cell? ⟨b, o + (i + 1) * 3, none⟩ = some (.bool s') ∧ w'.cell? ⟨b, o + (i + 1) * 3 + 1, none⟩ = some (.slice b1 m1 d1) ∧ w'.cell? ⟨b, o + (i + 1) * 3 + 2, none⟩ = some (.slice b2 m2 d2)) w7.drew := ⟨p0, p1, p2, k0, k1, k2⟩
      refine wpTill_take (i := 0) (v := ?_) rfl (by kernel_rfl) (by kernel_rfl) (by kernel_rfl) (by kernel_rfl) (by kernel_rfl) (by kernel_rfl) (fun _ _ _ h => h) (Or.inl ⟨by rfl, ?_⟩) hC0 ?_
      rotate_left
      · intro w hSw; (try dsimp only at hSw); obtain ⟨z0, z1, z2, z3, z4, z5⟩ := hSw; go_simp; (try with_reducible rfl)
      (try simp only [List.getElem_toArray, List.getElem_cons_succ, List.getElem_cons_zero])
      (try simp only [Act.put, List.setIfInBounds_toArray, List.set_cons_zero, List.set_cons_succ])
      refine wpTill_pure (i := 1) (v := ?_) rfl (by kernel_rfl) (by kernel_rfl) (by kernel_rfl) (by kernel_rfl) (fun _ _ _ h => h) (Or.inl ⟨by rfl, ?_⟩) (fun _ => hC0) ?_
      rotate_left
      · intro w hSw; clear hSw; go_simp; (try with_reducible rfl)
      (try simp only [List.getElem_toArray, List.getElem_cons_succ, List.getElem_cons_zero])
      (try simp only [Act.put, List.setIfInBounds_toArray, List.set_cons_zero, List.set_cons_succ])
      refine wpTill_pure (i := 2) (v := ?_) rfl (by kernel_rfl) (by kernel_rfl) (by kernel_rfl) (by kernel_rfl) (fun _ _ _ h => h) (Or.inl ⟨by rfl, ?_⟩) (fun _ => hC0) ?_
      rotate_left
      · intro w hSw; clear hSw; go_simp; (try with_reducible rfl)
      (try simp only [List.getElem_toArray, List.getElem_cons_succ, List.getElem_cons_zero])
      (try simp only [Act.put, List.setIfInBounds_toArray, List.set_cons_zero, List.set_cons_succ])
      refine wpTill_pure (i := 3) (v := ?_) rfl (by kernel_rfl) (by kernel_rfl) (by kernel_rfl) (by kernel_rfl) (fun _ _ _ h => h) (Or.inl ⟨by rfl, ?_⟩) (fun _ => hC0) ?_
      rotate_left
      · intro w hSw; clear hSw; go_simp; (try with_reducible rfl)
      (try simp only [List.getElem_toArray, List.getElem_cons_succ, List.getElem_cons_zero])
      (try simp only [Act.put, List.setIfInBounds_toArray, List.set_cons_zero, List.set_cons_succ])
      refine wpTill_take (i := 4) (v := ?_) rfl (by kernel_rfl) (by kernel_rfl) (by kernel_rfl) (by kernel_rfl) (by kernel_rfl) (by kernel_rfl) (fun _ _ _ h => h) (Or.inl ⟨by rfl, ?_⟩) hC0 ?_
      rotate_left
      · intro w hSw; (try dsimp only at hSw); obtain ⟨z0, z1, z2, z3, z4, z5⟩ := hSw; go_simp; (try with_reducible rfl)
      (try simp only [List.getElem_toArray, List.getElem_cons_succ, List.getElem_cons_zero])
      (try simp only [Act.put, List.setIfInBounds_toArray, List.set_cons_zero, List.set_cons_succ])
      refine wpTill_one (k := 5) (by kernel_rfl) rfl (fun K hK => ?_)
      (try simp only [List.getElem_toArray, List.getElem_cons_succ, List.getElem_cons_zero])
      go_simp
      refine (unhide HAD).mono ?_
      rintro e w9 ⟨v9, rfl, hv9, hb9⟩
      have T9 := (unhide HT7).keep (below_step (Below.refl _ _).drew hb9)
      obtain ⟨t9, rfl, hr9⟩ := tri_of hv9
      have ⟨k0', k1', k2', l0, l1, l2⟩ := box_cell T9.all
      have FIN := hide (T9.set hr9)
      have hC5 : (fun w' : World => w'.cell? ⟨G, 0, none⟩ = some (.bool t.s) ∧ w'.cell? ⟨G, 1, none⟩ = some (.slice t.a1 t.n1 t.c1) ∧ w'.cell? ⟨G, 2, none⟩ = some (.slice t.a2 t.n2 t.c2) ∧ w'.cell? ⟨b, o + (i + 1) * 3, none⟩ = some (.bool s') ∧ w'.cell? ⟨b, o + (i + 1) * 3 + 1, none⟩ = some (.slice b1 m1 d1) ∧ w'.cell? ⟨b, o + (i + 1) * 3 + 2, none⟩ = some (.slice b2 m2 d2)) w9 := ⟨k0', k1', k2', by rw [hb9.cell (p := ⟨b, o + (i + 1) * 3, none⟩) hblr7]; exact k0, by rw [hb9.cell (p := ⟨b, o + (i + 1) * 3 + 1, none⟩) hblr7]; exact k1, by rw [hb9.cell (p := ⟨b, o + (i + 1) * 3 + 2, none⟩) hblr7]; exact k2⟩
      simp only [Tri.val]
      clear T9 hv9 hr9 HAD p0 p1 p2 q0 q1 q2
      refine hK.out _ _ (fun _ => hC5) ?_
      clear hK K
      (try simp only [Act.put, List.setIfInBounds_toArray, List.set_cons_zero, List.set_cons_succ])
      refine wpTill_one (k := 6) (by kernel_rfl) rfl (fun K hK => ?_)
      (try simp only [List.getElem_toArray, List.getElem_cons_succ, List.getElem_cons_zero])
      go_simp
      refine hK.out _ _ (fun h => absurd (h.symm.trans (by kernel_rfl)) Bool.false_ne_true) ?_
      clear hK K
      (try simp only [Act.put, List.setIfInBounds_toArray, List.set_cons_zero, List.set_cons_succ])
      refine wpTill_done (by kernel_rfl) ?_ _
      clear hC0 hC5 k0 k1 k2 k0' k1' k2' HT HT7 hb9
      go_wp2_with fail
      exact ⟨⟨i + 1, t9, by go_num, hi2, unhide FIN, unhide HLT⟩, by simp [intOf]; omega⟩
    · have hdl : decide (g < 0) = false := decide_eq_false (fun h => hlt (hgn.1 h))
      have SAY : Hid (LeastSays qs qc (i : Int) 0) := ⟨by rw [unhide HK1, if_neg (fun h => h rfl), if_neg (unhide HNO)], fun h => absurd rfl h, fun _ => ⟨i, rfl, hi, unhide HLO, Rat.not_lt.1 hlt⟩⟩
      clear hgn hlt HCS HQ
      go_wp2_with fail
      refine (unhide HCM).mono ?_
      rintro e w7 ⟨rfl, hb7⟩
      have HB7 := hide ((unhide HT).keep hb7).bl
      clear hb7 HT
      go_wp2
      (try simp only [Exit.inBlock, Exit.then])
      go_ret2
      exact ⟨i, 0, rfl, unhide SAY, unhide HB7⟩
end Go.Proofs.YtnmmfcoclpapdaaGreatDoor
/- chance.trimmed. -/
namespace Go.Proofs.YtnmmfcoclpapdaaGreatDoor
open Go.RowKit Go.Sort Go.Shelf

/-- How many stay of the first n. -/
def tlen (qs : List Rat) : Nat → Nat
  | 0 => 0
  | 1 => 1
  | n + 2 => if qs[n + 1]!.num = 0 then tlen qs (n + 1) else n + 2
theorem tlen_le (qs : List Rat) : ∀ n, tlen qs n ≤ n
  | 0 => Nat.le_refl _
  | 1 => Nat.le_refl _
  | n + 2 => by
    unfold tlen
    split
    · exact Nat.le_trans (tlen_le qs (n + 1)) (by omega)
    · exact Nat.le_refl _

theorem LawIs.take {w : World} {a : Option Addr} {n c : Nat} {qs : List Rat} (h : LawIs w (.slice a n c) qs) (m : Nat) (hm : m ≤ qs.length) : LawIs w (.slice a m c) (qs.take m) := by
  obtain ⟨a', c', e, h1, h2, h3⟩ := h
  injection e with e1 e2 e3
  subst e1; subst e3
  have hl : (qs.take m).length = m := by rw [List.length_take]; omega
  refine ⟨a, c, by rw [hl], by rw [hl]; omega, h2, fun hp => ?_⟩
  rw [hl] at hp
  obtain ⟨b, o, ea, hb, hc⟩ := h3 (by omega)
  refine ⟨b, o, ea, hb, fun j hj => ?_⟩
  rw [hl] at hj
  have e : (qs.take m)[j]! = qs[j]! := by
    rw [List.getElem!_eq_getElem?_getD, List.getElem!_eq_getElem?_getD, List.getElem?_take_of_lt hj]
  rw [e]
  exact hc j (by omega)

set_option maxHeartbeats 4000000 in
set_option maxRecDepth 100000 in
set_option linter.unusedSimpArgs false in
theorem trimmedL_any (a : Option Addr) (c : Nat) (qs : List Rat) (w : World) (h : LawIs w (.slice a qs.length c) qs) (hp : 0 < qs.length) :
    Calls Tryz.prog 104 #[.slice a qs.length c] w fun e w' => e = .returned (.slice a (tlen qs qs.length) c) ∧ Below w.heap.size w w' := by
  have HL := hide h
  obtain ⟨a', c', e, h1, h2, h3⟩ := h
  injection e with e1 e2 e3
  subst e1; subst e3
  obtain ⟨b, o, rfl, hblt, hcs⟩ := h3 hp
  have HCS := hide hcs
  clear h3 e2 hcs
  have HP := hide hp
  clear hp
  go_enter Tryz.func104, Tryz.ntmps104
  go_wp2_with fail
  go_loopw [3] (fun vi wr => ∃ (n : Nat), vi = .int .i64 n ∧ n ≤ qs.length ∧ 0 < n ∧ tlen qs n = tlen qs qs.length ∧ Below w.heap.size w wr) (fun vi _ => (intOf vi).toNat)
  case atStart => exact ⟨qs.length, rfl, Nat.le_refl _, unhide HP, rfl, Below.refl _ _⟩
  case round =>
    obtain ⟨n, rfl, hn, hn0, htl, bl⟩ := hrel
    have hnc : n ≤ c := by omega
    by_cases hn1 : n = 1
    · subst hn1
      have e1 : tlen qs 1 = 1 := rfl
      rw [e1] at htl
      have HTL := hide htl
      have HBL := hide bl
      clear htl bl HCS e1
      go_wp2
      (try simp only [Exit.inBlock, Exit.then])
      go_ret
      exact ⟨by rw [← unhide HTL]; rfl, unhide HBL⟩
    · have hn2 : 1 < n := by omega
      have hd : decide ((1 : Int) < (n : Int)) = true := decide_eq_true (by omega)
      have hidx : n - 1 < qs.length := by omega
      obtain ⟨s', b1, b2, m1, d1, m2, d2, k0, k1, k2, r⟩ := unhide HCS (n - 1) hidx
      rw [← bl.cell (p := ⟨b, o + (n - 1) * 3, none⟩) hblt] at k0
      rw [← bl.cell (p := ⟨b, o + (n - 1) * 3 + 1, none⟩) hblt] at k1
      rw [← bl.cell (p := ⟨b, o + (n - 1) * 3 + 2, none⟩) hblt] at k2
      have HSG := hide (sign_any _ _ wr (r.below bl))
      have etl : tlen qs n = if qs[n - 1]!.num = 0 then tlen qs (n - 1) else n := by
        obtain ⟨m, rfl⟩ : ∃ m, n = m + 2 := ⟨n - 2, by omega⟩
        rw [tlen]; rfl
      have hj0 : (0 : Int) ≤ (n : Int) - 1 := by omega
      have hj1 : (n : Int) - 1 < (qs.length : Int) := by omega
      have ht1 : ((n : Int) - 1).toNat = n - 1 := by omega
      obtain ⟨q, hq⟩ : ∃ q, qs[n - 1]! = q := ⟨_, rfl⟩
      rw [hq] at HSG etl
      have HBL := hide bl
      have hr0 : -9223372036854775808 ≤ (n : Int) - 1 := by omega
      have hr1 : (n : Int) - 1 ≤ 9223372036854775807 := by omega
      by_cases hz : q.num = 0
      · rw [if_pos hz] at etl
        have hsz : q.num.sign = 0 := by rw [hz]; rfl
        rw [hsz] at HSG
        have HN := hide (show tlen qs (n - 1) = tlen qs qs.length from etl ▸ htl)
        have hle : n - 1 ≤ qs.length := by omega
        clear r bl HCS etl htl hq hz hsz
        go_wp2_with fail
        refine (unhide HSG).mono ?_
        rintro e w2 ⟨rfl, hb2⟩
        have HB2 := hide (below_step (unhide HBL) hb2)
        clear hb2 k0 k1 k2
        go_wp2_with fail
        exact ⟨⟨n - 1, by go_num, hle, by omega, unhide HN, unhide HB2⟩, by simp [intOf]; omega⟩
      · rw [if_neg hz] at etl
        have hsz : q.num.sign ≠ 0 := fun h => hz (Int.sign_eq_zero_iff_zero.1 h)
        have hsb := sign_bd q.num
        obtain ⟨x, hx⟩ : ∃ x, q.num.sign = x := ⟨_, rfl⟩
        rw [hx] at HSG hsz hsb
        obtain ⟨hsb0, hsb1⟩ := hsb
        have hxb : (x == 0) = false := by simpa using hsz
        have HN := hide (show n = tlen qs qs.length from etl ▸ htl)
        clear r bl HCS etl htl hq hz hsz hx
        go_wp2_with fail
        refine (unhide HSG).mono ?_
        rintro e w2 ⟨rfl, hb2⟩
        have HB2 := hide (below_step (unhide HBL) hb2)
        clear hb2 k0 k1 k2
        go_wp2
        (try simp only [Exit.inBlock, Exit.then])
        go_ret
        exact ⟨by rw [← unhide HN]; rfl, unhide HB2⟩
end Go.Proofs.YtnmmfcoclpapdaaGreatDoor
