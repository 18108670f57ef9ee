/- Hu. -/
import Derived.Test.YtepgdlgifempeaaDoorY21
namespace Go.Proofs.YtepgdlgifempeaaDoor
open Go.RowKit Go.Sort Stb Hux

/-- The times, round by round. -/
def hur (nx : Nat → Int) (m : Nat) : Nat → Nat → List Nat → (Nat → Nat) → Nat → Nat
  | 0, _, _, T => T
  | f + 1, t, Q, T => if Q = [] then T else hur nx m f (t + 1) (pt (rdy nx Q) m Q).2 (now' T (pt (rdy nx Q) m Q).1 t)
theorem hur_nil (nx : Nat → Int) (m : Nat) (t : Nat) (T : Nat → Nat) : ∀ f, hur nx m f t [] T = T
  | 0 => rfl
  | _ + 1 => if_pos rfl
theorem hur_step (nx : Nat → Int) (m : Nat) (f t : Nat) {Q : List Nat} (T : Nat → Nat) (h : Q ≠ []) : hur nx m (f + 1) t Q T = hur nx m f (t + 1) (pt (rdy nx Q) m Q).2 (now' T (pt (rdy nx Q) m Q).1 t) := if_neg h
theorem rdy_ahd (nx : Nat → Int) (Q : List Nat) : (fun i => ((ahd nx Q i : Nat) : Int) == 0) = rdy nx Q := by
  funext i
  cases c : rdy nx Q i with
  | true => rw [ahd_zero.2 c]; rfl
  | false =>
    rw [beq_eq_false_iff_ne]
    intro e
    have : ahd nx Q i = 0 := by omega
    rw [ahd_zero.1 this] at c
    cases c
theorem IRow.congr {w : World} {a : Option Addr} {n c : Nat} {f g : Nat → Int} (h : IRow w a n c f) (e : ∀ j, j < n → f j = g j) : IRow w a n c g := by
  obtain ⟨h1, h2, h3⟩ := h
  refine ⟨h1, h2, fun hp => ?_⟩
  obtain ⟨b, o, h4, h5, h6⟩ := h3 hp
  exact ⟨b, o, h4, h5, fun j hj => by rw [← e j hj]; exact h6 j hj⟩
theorem OwnN.irow {w : World} {B : Nat} {v : Value} {xs : List Nat} (h : OwnN w B v xs) : ∃ a c, v = .slice a xs.length c ∧ IRow w a xs.length c (fun j => ((xs[j]! : Nat) : Int)) := by
  obtain ⟨a, c, h1, h2⟩ := OwnL.irow h
  rw [List.length_map] at h1 h2
  exact ⟨a, c, h1, h2.congr (fun j hj => getN xs hj)⟩
theorem OwnL.apart {w : World} {B b j : Nat} {v u : Value} {xs : List Int} (h : OwnL w B v xs) (hne : ∀ k, v.ownBlock = some k → k ≠ b) : OwnL (w.setCell ⟨b, j, none⟩ u) B v xs := by
  refine ⟨h.1, ?_⟩
  rcases h.2 with h | ⟨g, cap, cur, hv, hg, hh, h1⟩
  · exact Or.inl h
  · refine Or.inr ⟨g, cap, cur, hv, hg, ?_, h1⟩
    rw [Below.heap_setCell _ _ _ _ (hne g (by rw [hv]; rfl))]
    exact hh
theorem OwnL.base {w : World} {B B' : Nat} {v : Value} {xs : List Int} (h : OwnL w B v xs) (hB : B' ≤ B) : OwnL w B' v xs := by
  refine ⟨h.1, ?_⟩
  rcases h.2 with h | ⟨g, cap, cur, hv, hg, h1⟩
  · exact Or.inl h
  · exact Or.inr ⟨g, cap, cur, hv, Nat.le_trans hB hg, h1⟩
theorem ownN_of {w : World} {B G n : Nat} {g : Nat → Nat} (h : OwnI w G n (nI g)) (hB : B ≤ G) (hn : n ≤ 100) : OwnN w B (.slice (some ⟨G, 0, none⟩) n n) ((List.range n).map g) := by
  have e : (((List.range n).map g).map (fun x => ((x : Nat) : Int))).map (Value.int .i64 ·) = lrow (nI g) n := by
    unfold lrow nI
    rw [List.map_map, List.map_map]
    rfl
  have hl : (((List.range n).map g).map (fun x => ((x : Nat) : Int))).length = n := by simp
  unfold OwnN OwnL
  rw [e, hl]
  refine ⟨by rw [lrow_length, Nat.mul_one], Or.inr ⟨G, n, (lrow (nI g) n).toArray, rfl, hB, h, Nat.le_refl _, by unfold maxLen; omega, by simp [lrow_length], ?_⟩⟩
  rw [Nat.mul_one]
  exact List.take_of_length_le (by simp [lrow_length])
def lenV (v : Value) : Nat := match v with | .slice _ n _ => n | _ => 0
def hcode (n : Nat) (nx : Nat → Int) (m : Int) : Int := if m < 1 ∨ 20 < m ∨ 60 < n then 4 else ncode n nx
/-- Levels, as the comparison has them. -/
def lvI (nx : Nat → Int) (n : Nat) : Nat → Int := fun i => (lv nx n i : Int)
/-- What Hu does: its times, of a row by levels. -/
structure HuIs (n m : Nat) (nx : Nat → Int) (T : Nat → Nat) : Prop where
  run : ∃ g, Re 0 n id g ∧ Sr (ltc (fun i k => cmpI (lvI nx n k) (lvI nx n i))) g 0 n ∧ T = hur nx m n 0 ((List.range n).map g) (fun _ => 0)
  rd : ∃ t, t ≤ n ∧ Rd n m nx (lv nx n) t [] T
def HuPost (w : World) (n : Nat) (nx : Nat → Int) (m : Int) (e : Ending) (w' : World) : Prop :=
  Below w.heap.size w w' ∧ ((hcode n nx m ≠ 0 ∧ e = .returned (.tuple #[.slice none 0 0, .iface 26 (.int .i64 (hcode n nx m))])) ∨ (hcode n nx m = 0 ∧ ∃ (G : Nat) (T : Nat → Nat), w.heap.size ≤ G ∧ e = .returned (.tuple #[.slice (some ⟨G, 0, none⟩) n n, .nilIface]) ∧ OwnI w' G n (nI T) ∧ HuIs n m.toNat nx T))
/-- How far it is. -/
structure HuSt (w wr : World) (n m : Nat) (nx : Nat → Int) (GA GT : Nat) (F : Nat → Nat) (t : Nat) (Q : List Nat) (T : Nat → Nat) (vq : Value) : Prop where
  q : OwnN wr w.heap.size vq Q
  ne : ∀ k, vq.ownBlock = some k → k ≠ GT ∧ k ≠ GA
  ti : OwnI wr GT n (nI T)
  ah : OwnI wr GA n (fun i => (ahd nx Q i : Int))
  rd : Rd n m nx (lv nx n) t Q T
  hr : hur nx m (n - t) t Q T = F
  len : Q.length + t ≤ n
  bl : Below w.heap.size w wr
/-- Within a round. -/
structure HuIn (w wb wv : World) (n m : Nat) (nx : Nat → Int) (GA GT t j : Nat) (C R : List Nat) (T : Nat → Nat) (vc vr : Value) : Prop where
  c : OwnN wv wb.heap.size vc C
  r : OwnN wv wb.heap.size vr R
  ti : OwnI wv GT n (nI (now' T (C.take j) t))
  ah : OwnI wv GA n (fun i => (ahd nx (C.drop j ++ R) i : Int))
  bl : Below w.heap.size w wv
  lt : GA < wb.heap.size ∧ GT < wb.heap.size ∧ GA ≠ GT ∧ w.heap.size ≤ GA ∧ w.heap.size ≤ GT
theorem HuIn.set {w wb wv : World} {n m : Nat} {nx : Nat → Int} {GA GT t j : Nat} {C R : List Nat} {T : Nat → Nat} {vc vr : Value} (h : HuIn w wb wv n m nx GA GT t j C R T vc vr) {i : Nat} (hi : C[j]? = some i) : OwnN (wv.setCell ⟨GT, i, none⟩ (.int .i64 (t : Int))) wb.heap.size vc C ∧ OwnN (wv.setCell ⟨GT, i, none⟩ (.int .i64 (t : Int))) wb.heap.size vr R ∧ OwnI (wv.setCell ⟨GT, i, none⟩ (.int .i64 (t : Int))) GT n (nI (now' T (C.take (j + 1)) t)) ∧ OwnI (wv.setCell ⟨GT, i, none⟩ (.int .i64 (t : Int))) GA n (fun i => (ahd nx (C.drop j ++ R) i : Int)) ∧ Below w.heap.size w (wv.setCell ⟨GT, i, none⟩ (.int .i64 (t : Int))) := by
  refine ⟨OwnL.apart h.c (fun k hk => ?_), OwnL.apart h.r (fun k hk => ?_), (h.ti.set i (t : Int)).congr (fun x hx => ?_), h.ah.apart h.lt.2.2.1, h.bl.setCell (p := ⟨GT, i, none⟩) h.lt.2.2.2.2 _⟩
  · have := OwnL.row h.c k hk; have := h.lt.2.1; omega
  · have := OwnL.row h.r k hk; have := h.lt.2.1; omega
  · unfold updI nI now'
    rw [take_snoc C hi]
    by_cases c1 : x = i
    · rw [if_pos c1, if_pos (by rw [c1]; simp)]
    · rw [if_neg c1]
      by_cases c2 : x ∈ C.take j
      · rw [if_pos c2, if_pos (List.mem_append_left _ c2)]
      · rw [if_neg c2, if_neg (fun h => (List.mem_append.1 h).elim c2 (fun h => c1 (by simpa using h)))]
theorem drop_cons (C : List Nat) {j i : Nat} (h : C[j]? = some i) : C.drop j = i :: C.drop (j + 1) := by
  obtain ⟨h1, h2⟩ := List.getElem?_eq_some_iff.1 h
  rw [← h2]
  exact List.drop_eq_getElem_cons h1

set_option maxHeartbeats 8000000 in
set_option maxRecDepth 100000 in
set_option linter.unusedSimpArgs false in
theorem hu_any (a : Option Addr) (n c : Nat) (nx : Nat → Int) (m : Int) (w : World) (ha : IRow w a n c nx) :
    Calls Tryd.prog 27 #[.slice a n c, .int .i64 m] w (HuPost w n nx m) := by
  have hn63 := ha.1
  have hc63 := ha.2.1
  have HA := hide ha
  have HC := hide (checkMany_any n m (by omega) w)
  by_cases hmn : m < 1 ∨ 20 < m ∨ 60 < n
  · rw [if_pos hmn, show errV 4 = .iface 26 (.int .i64 4) from rfl] at HC
    have HV : Hid (hcode n nx m = 4) := if_pos hmn
    clear hmn ha
    go_enter Tryd.func27, Tryd.ntmps27
    go_wp2_with fail
    refine (unhide HC).mono ?_
    rintro e w1 ⟨rfl, rfl⟩
    go_wp2
    go_ret2
    exact ⟨Below.refl _ _, Or.inl ⟨by rw [unhide HV]; decide, by rw [unhide HV]; rfl⟩⟩
  rw [if_neg hmn, errV_zero] at HC
  have hn60 : n ≤ 60 := by omega
  have hm1 : 1 ≤ m := by omega
  have hm20 : m ≤ 20 := by omega
  have HHC : Hid (hcode n nx m = ncode n nx) := if_neg hmn
  have HL : Hid (∀ W, Below w.heap.size w W → Calls Tryd.prog 46 #[.slice a n c] W (LvPost W n nx)) := fun W hW => levels_any a n c nx W (ha.below hW) hn60
  obtain ⟨M, hM⟩ : ∃ M : Nat, m.toNat = M := ⟨_, rfl⟩
  obtain rfl : m = (M : Int) := by omega
  have HMM := hide hM
  clear hmn ha hM
  go_enter Tryd.func27, Tryd.ntmps27
  go_wp2_with fail
  refine (unhide HC).mono ?_
  rintro e w1 ⟨rfl, rfl⟩
  have HL1 := hide (unhide HL w1 (Below.refl _ _))
  clear HC HL
  go_wp2_with fail
  refine (unhide HL1).mono ?_
  rintro e w2 ⟨hb2, hp⟩
  rcases hp with ⟨ht, rfl⟩ | ⟨ht, GL, hGL, rfl, hOL⟩
  · have HB := hide (below_step hb2 (alloc_below w2 (.cells #[.slice none 0 0] 23)))
    have HV : Hid (hcode n nx M ≠ 0 ∧ hcode n nx M = ncode n nx) := ⟨by rw [unhide HHC]; exact ht, unhide HHC⟩
    obtain ⟨k, hk⟩ : ∃ k, ncode n nx = k := ⟨_, rfl⟩
    rw [hk]
    have HK := hide hk
    clear hb2 ht HL1 hk
    go_wp2
    go_ret2
    refine ⟨unhide HB, Or.inl ⟨(unhide HV).1, ?_⟩⟩
    rw [(unhide HV).2, unhide HK]
    rfl
  have hN := goodN_of ht
  have HN := hide hN
  have HT := hide ht
  -- the levels' box
  have hb3 := alloc_below w2 (.cells #[.slice (some ⟨GL, 0, none⟩) n n] 23)
  have hX : (w2.alloc (.cells #[.slice (some ⟨GL, 0, none⟩) n n] 23)).cell? ⟨w2.heap.size, 0, none⟩ = some (.slice (some ⟨GL, 0, none⟩) n n) := by simp only [World.cell?, heap_alloc_new]; rfl
  have hs3 := alloc_size w2 (.cells #[.slice (some ⟨GL, 0, none⟩) n n] 23)
  obtain ⟨w3, hw3⟩ : ∃ V, w2.alloc (.cells #[.slice (some ⟨GL, 0, none⟩) n n] 23) = V := ⟨_, rfl⟩
  obtain ⟨pa, hpa⟩ : ∃ p, w2.heap.size = p := ⟨_, rfl⟩
  rw [hw3] at hb3 hX hs3
  rw [hpa] at hX hs3
  have bw3 := below_step hb2 hb3
  have HCM : Hid (Cmps w3 n 47 #[.pointer (some ⟨pa, 0, none⟩)] (fun i k => cmpI (lvI nx n k) (lvI nx n i))) :=
    ⟨eg_h, fun i k W hi hk hW => hu1_any pa (some ⟨GL, 0, none⟩) n n (lvI nx n) w3 W i k hi hk hn60 ((hOL.keep hb3).irow (by omega)) hX (by omega) hW⟩
  have HS := hide (sorted_any n 47 _ _ w3 (by omega) (unhide HCM) wo_g)
  have HBW := hide bw3
  clear HCM hOL bw3 hb3 hX hs3 hGL HL1 hb2 hN ht
  go_wp2_with fail
  refine (unhide HS).mono ?_
  rintro e w4 ⟨G, g, hG, rfl, hO, hre, hsr, hb4⟩
  have hb4' := below_step (unhide HBW) hb4
  have HCO := hide (counts_any a n c nx w4 ((unhide HA).below hb4') hn60 (unhide HN))
  have HO := hide hO
  have HRS : Hid (Re 0 n id g ∧ Sr (ltc (fun i k => cmpI (lvI nx n k) (lvI nx n i))) g 0 n) := ⟨hre, hsr⟩
  have HB4 := hide hb4'
  have HGG : Hid (w1.heap.size ≤ G) := Nat.le_trans (unhide HBW).size hG
  clear hG hO hre hsr hb4 hb4' HS HBW hw3 hpa
  go_wp2_with fail
  refine (unhide HCO).mono ?_
  rintro e w5 ⟨GA, hGA, rfl, hOA, hb5⟩
  have mk := make_ints n (by omega) w5
  have hOT := make_own w5 n
  have hbT := alloc_below w5 (.cells (lrow (fun _ => 0) n).toArray 3)
  obtain ⟨w6, hw6⟩ : ∃ V, w5.alloc (.cells (lrow (fun _ => 0) n).toArray 3) = V := ⟨_, rfl⟩
  obtain ⟨GT, hGT⟩ : ∃ p, w5.heap.size = p := ⟨_, rfl⟩
  rw [hw6] at mk hOT hbT
  rw [hGT] at mk hOT
  have HST : Hid (HuSt w1 w6 n M nx GA GT (hur nx M n 0 ((List.range n).map g) (fun _ => 0)) 0 ((List.range n).map g) (fun _ => 0) (.slice (some ⟨G, 0, none⟩) n n)) := by
    have hG4 := (unhide HO).lt
    have hA5 := hOA.lt
    have hz4 := (unhide HB4).size
    have hz5 := hb5.size
    have hlt := (unhide HRS).1.lt (Nat.le_refl _) (fun i hi => hi)
    have hperm : ((List.range n).map g).Perm (List.range n) := by
      have := rl_perm (goodR_re (unhide HRS).1)
      rw [rl_nI] at this
      exact this
    refine ⟨ownN_of ((unhide HO).keep (below_step hb5 hbT)) (unhide HGG) (by omega), fun k hk => ?_, hOT.congr (fun j _ => rfl), (hOA.keep hbT).congr (fun j _ => by rw [ahd_perm hperm]), Rd.start (hperm.nodup_iff.2 List.nodup_range) (fun i => by rw [hperm.mem_iff, List.mem_range]) ?_ (fun i hi => ((unhide HN).rng i hi).2), rfl, by simp, below_step (below_step (unhide HB4) hb5) hbT⟩
    · have : G = k := by simpa [Value.ownBlock] using hk
      omega
    · refine pair_map fun p q hpq hq => ?_
      have h1 := lo_not (n := n) wo_g (hlt p (by omega)) (hlt q hq) ((unhide HRS).2 p q (Nat.zero_le _) hpq hq)
      unfold ltc at h1
      have h2 := of_decide_eq_false h1
      rw [cmpI_lt] at h2
      unfold lvI at h2
      omega
  have HGLT : Hid (GA ≠ GT ∧ w1.heap.size ≤ GA ∧ w1.heap.size ≤ GT) := by
    have hA5 := hOA.lt
    have hz4 := (unhide HB4).size
    have hz5 := hb5.size
    exact ⟨by omega, by omega, by omega⟩
  clear hGA hOA hb5 hOT hbT HCO HO HB4 hw6 hGT
  go_wp2_with fail
  clear mk
  go_loopw [9, 12] (fun vq vt wr => ∃ (t : Nat) (Q : List Nat) (T : Nat → Nat), vt = .int .i64 (t : Int) ∧ HuSt w1 wr n M nx GA GT (hur nx M n 0 ((List.range n).map g) (fun _ => 0)) t Q T vq) (fun vq _ _ => lenV vq)
  case atStart => exact ⟨0, _, _, rfl, unhide HST⟩
  case round =>
    obtain ⟨t, Q, T, rfl, hS⟩ := hrel
    obtain ⟨qa, qc, rfl, hqr⟩ := OwnN.irow hS.q
    have hlenQ := hS.len
    by_cases hq : Q = []
    · subst hq
      have HIS : Hid (HuIs n M nx T) := ⟨⟨g, (unhide HRS).1, (unhide HRS).2, by rw [← hS.hr, hur_nil]⟩, t, by simpa using hS.len, hS.rd⟩
      have HTI := hide hS.ti
      have HBL := hide hS.bl
      simp only [List.length_nil]
      clear hS hqr hlenQ
      go_wp2
      (try simp only [Exit.inBlock, Exit.then])
      (try go_wp2)
      go_ret2
      refine ⟨unhide HBL, Or.inr ⟨by rw [unhide HHC]; exact unhide HT, GT, T, (unhide HGLT).2.2, rfl, unhide HTI, ?_⟩⟩
      rw [unhide HMM]
      exact unhide HIS
    · have hq0 : 0 < Q.length := List.length_pos_iff.2 hq
      have HPT := hide (parted_any qa qc Q (some ⟨GA, 0, none⟩) n n (fun i => (ahd nx Q i : Int)) M wr hqr (hS.ah.irow (by omega)) hS.rd.lt (by omega) (by omega))
      rw [rdy_ahd] at HPT
      obtain ⟨C, hC⟩ : ∃ C, (pt (rdy nx Q) M Q).1 = C := ⟨_, rfl⟩
      obtain ⟨R, hR⟩ : ∃ R, (pt (rdy nx Q) M Q).2 = R := ⟨_, rfl⟩
      have hpd := pt_is (rdy nx Q) M Q
      rw [hC, hR] at hpd
      unfold PtPost at HPT
      rw [hC, hR] at HPT
      have hrd2 := hS.rd.next hpd
      have hless := hS.rd.some (fun i hi h0 => (lv_step ((unhide HN).lev i hi)).2 h0) (by omega) hq hpd
      have hhr : hur nx M (n - (t + 1)) (t + 1) R (now' T C t) = hur nx M n 0 ((List.range n).map g) (fun _ => 0) := by
        rw [← hS.hr, show n - t = (n - (t + 1)) + 1 by omega, hur_step nx M _ t T hq, hC, hR]
      have HNX : Hid (Rd n M nx (lv nx n) (t + 1) R (now' T C t) ∧ hur nx M (n - (t + 1)) (t + 1) R (now' T C t) = hur nx M n 0 ((List.range n).map g) (fun _ => 0) ∧ R.length + (t + 1) ≤ n ∧ R.length < Q.length) := ⟨hrd2, hhr, by omega, hless⟩
      have HCQ : Hid ((∀ i ∈ C, i < n) ∧ C.length ≤ 60 ∧ ∀ i, ahd nx Q i = ahd nx (C ++ R) i) := by
        refine ⟨fun i hi => hS.rd.lt i (hpd.perm.subset (List.mem_append_left _ hi)), ?_, fun i => (ahd_perm hpd.perm i).symm⟩
        have := hpd.perm.length_eq
        rw [List.length_append] at this
        omega
      have HSS := hide hS
      obtain ⟨ql, hql⟩ : ∃ l, Q.length = l := ⟨_, rfl⟩
      rw [hql] at HPT hq0 hlenQ HNX
      rw [hql]
      have e1 : (0 : Int) < (ql : Int) := by omega
      have e2 : IntKind.i64.wrap ((t : Int) + 1) = (t : Int) + 1 := by rw [IntKind.wrap_i64]; omega
      have hbt : t ≤ 60 := by omega
      clear hS hqr hpd hrd2 hless hhr hC hR hq hql hlenQ
      go_wp2_with fail
      refine (unhide HPT).mono ?_
      rintro e w7 ⟨vc, vr, rfl, hTw⟩
      have HIN0 : Hid (HuIn w1 wr w7 n M nx GA GT t 0 C R T vc vr) := by
        have h := unhide HSS
        refine ⟨hTw.r, hTw.o, ?_, ?_, below_step h.bl hTw.bl, h.ah.lt, h.ti.lt, (unhide HGLT).1, (unhide HGLT).2.1, (unhide HGLT).2.2⟩
        · exact (h.ti.keep hTw.bl).congr (fun j _ => by unfold nI now'; simp)
        · exact (h.ah.keep hTw.bl).congr (fun j _ => by rw [(unhide HCQ).2.2 j]; rfl)
      obtain ⟨ca, cc, hvc, hcr⟩ := OwnN.irow hTw.r
      subst hvc
      obtain ⟨cl, hcl⟩ : ∃ l, C.length = l := ⟨_, rfl⟩
      rw [hcl] at HIN0 HCQ
      rw [hcl]
      have HCL := hide hcl
      obtain ⟨wb, hwb⟩ : ∃ V, V = wr := ⟨_, rfl⟩
      subst hwb
      clear hTw hcr hcl HPT
      go_wp2_with fail
      go_loopw [54] (fun vj wv => ∃ j : Nat, vj = .int .i64 (j : Int) ∧ j ≤ cl ∧ HuIn w1 wb wv n M nx GA GT t j C R T (.slice ca cl cc) vr) (fun vj _ => cl - (intOf vj).toNat)
      case atStart => exact ⟨0, rfl, Nat.zero_le _, unhide HIN0⟩
      case round =>
        obtain ⟨j, rfl, hj, hI⟩ := hrel
        by_cases hlt : j < cl
        · obtain ⟨ca', cc', he, hcr⟩ := OwnN.irow hI.c
          injection he with he1 he2 he3
          subst he1 he3
          obtain ⟨b, o, rfl, hbl, hcc⟩ := hcr.2.2 (by omega)
          have hjC : j < C.length := by rw [unhide HCL]; exact hlt
          obtain ⟨i, hi⟩ : ∃ i, C[j]? = some i := ⟨C[j], by simp [hjC]⟩
          have c0 := hcc j hjC
          have hi2 : C[j]! = i := by simp [hi]
          simp only [hi2] at c0
          have hin : i < n := (unhide HCQ).1 i (List.mem_of_getElem? hi)
          obtain ⟨b', o', rfl, hbl', hca⟩ := ((unhide HA).below hI.bl).2.2 (by omega)
          have hb'w : b' < w1.heap.size := by
            obtain ⟨b2, o2, e, h2, _⟩ := (unhide HA).2.2 (by omega)
            injection e with e
            injection e with e
            omega
          have c1 := hca i hin
          have hrg := (unhide HN).rng i hin
          obtain ⟨x, hx⟩ : ∃ x, nx i = x := ⟨_, rfl⟩
          rw [hx] at c1 hrg
          have g1 := hI.ti.cell hin
          have g2 := hI.ti.free i
          obtain ⟨s1, s2, s3, s4, s5⟩ := hI.set hi
          have hdr : ∀ y, ahd nx (C.drop j ++ R) y = (if x = (y : Int) then 1 else 0) + ahd nx (C.drop (j + 1) ++ R) y := fun y => by rw [drop_cons C hi, List.cons_append, ahd_cons, hx]
          have hlt' := hI.lt
          have c2 : (wr.setCell ⟨GT, i, none⟩ (.int .i64 (t : Int))).cell? ⟨b', o' + i, none⟩ = some (.int .i64 x) := by
            rw [World.cell?_setCell_other _ _ _ _ (fun e => by injection e with e1 _; omega)]; exact c1
          obtain ⟨W3, hW3⟩ : ∃ V, wr.setCell ⟨GT, i, none⟩ (.int .i64 (t : Int)) = V := ⟨_, rfl⟩
          rw [hW3] at s1 s2 s3 s4 s5 c2
          obtain ⟨u, g1⟩ : ∃ u : Value, wr.cell? ⟨GT, i, none⟩ = some u := ⟨_, g1⟩
          have h60 := (unhide HCQ).2.1
          have e3 : (0 : Int) ≤ (j : Int) := by omega
          have e4 : (j : Int) < (cl : Int) := by omega
          have e5 : (0 : Int) ≤ (i : Int) := by omega
          have e6 : (i : Int) < (n : Int) := by omega
          have e7 : IntKind.i64.wrap ((j : Int) + 1) = (j : Int) + 1 := by rw [IntKind.wrap_i64]; omega
          have HSET : Hid (OwnN W3 wb.heap.size (.slice (some ⟨b, o, none⟩) cl cc) C ∧ OwnN W3 wb.heap.size vr R ∧ OwnI W3 GT n (nI (now' T (C.take (j + 1)) t)) ∧ Below w1.heap.size w1 W3) := ⟨s1, s2, s3, s5⟩
          by_cases hx0 : 0 ≤ x
          · obtain ⟨y, rfl⟩ : ∃ y : Nat, x = (y : Int) := ⟨x.toNat, by omega⟩
            have hy : y < n := by omega
            have g3 := s4.cell hy
            have g4 := s4.free y
            have hal : ahd nx (C.drop j ++ R) y ≤ 200 ∧ ahd nx (C.drop j ++ R) y = 1 + ahd nx (C.drop (j + 1) ++ R) y := by
              have h1 := hdr y
              rw [if_pos rfl] at h1
              refine ⟨?_, h1⟩
              have h2 : ahd nx (C.drop j ++ R) y ≤ (C.drop j ++ R).length := List.length_filter_le _ _
              have h3 := (unhide HCQ).2.1
              have h4 := (unhide HNX).2.2.1
              rw [List.length_append, List.length_drop] at h2
              omega
            obtain ⟨v, hv⟩ : ∃ v, ahd nx (C.drop j ++ R) y = v := ⟨_, rfl⟩
            simp only [hv] at g3
            rw [hv] at hal
            obtain ⟨v', hv'⟩ : ∃ v', (v : Int) - 1 = v' := ⟨_, rfl⟩
            have e8 : IntKind.i64.wrap ((v : Int) - 1) = v' := by rw [IntKind.wrap_i64]; omega
            have e9 : (0 : Int) ≤ (y : Int) := by omega
            have e10 : (y : Int) < (n : Int) := by omega
            have HFI : Hid (HuIn w1 wb (W3.setCell ⟨GA, y, none⟩ (.int .i64 v')) n M nx GA GT t (j + 1) C R T (.slice (some ⟨b, o, none⟩) cl cc) vr) := by
              refine ⟨OwnL.apart s1 (fun k hk => ?_), OwnL.apart s2 (fun k hk => ?_), s3.apart (Ne.symm hlt'.2.2.1), (s4.set y v').congr (fun z hz => ?_), s5.setCell (p := ⟨GA, y, none⟩) hlt'.2.2.2.1 _, hlt'⟩
              · have := OwnL.row s1 k hk; omega
              · have := OwnL.row s2 k hk; omega
              · unfold updI
                have h1 := hdr z
                by_cases c5 : z = y
                · rw [if_pos c5, c5]; omega
                · rw [if_neg c5]
                  rw [if_neg (by omega)] at h1
                  show ((ahd nx (C.drop j ++ R) z : Nat) : Int) = _
                  rw [h1]; omega
            clear hI hcr hcc hca s1 s2 s3 s4 s5 hdr hx hv hal hv' hi hi2 hrg hlt'
            go_wp2
            exact ⟨⟨j + 1, by go_num, hlt, unhide HFI⟩, by simp [intOf]; omega⟩
          · have e8 : ¬ (0 : Int) ≤ x := hx0
            have HFI : Hid (HuIn w1 wb W3 n M nx GA GT t (j + 1) C R T (.slice (some ⟨b, o, none⟩) cl cc) vr) := by
              refine ⟨s1, s2, s3, s4.congr (fun z _ => ?_), s5, hlt'⟩
              rw [hdr z, if_neg (by omega), Nat.zero_add]
            clear hI hcr hcc hca s1 s2 s3 s4 s5 hdr hx hi hi2 hrg hlt'
            go_wp2
            exact ⟨⟨j + 1, by go_num, hlt, unhide HFI⟩, by simp [intOf]; omega⟩
        · obtain rfl : j = cl := by omega
          have e3 : ¬ (j : Int) < (j : Int) := by omega
          have HFS : Hid (HuSt w1 wr n M nx GA GT (hur nx M n 0 ((List.range n).map g) (fun _ => 0)) (t + 1) R (now' T C t) vr) := by
            have hx := unhide HNX
            have hti := hI.ti
            have hah := hI.ah
            rw [List.take_of_length_le (Nat.le_of_eq (unhide HCL))] at hti
            rw [List.drop_of_length_le (Nat.le_of_eq (unhide HCL)), List.nil_append] at hah
            refine ⟨OwnL.base hI.r (unhide HSS).bl.size, fun k hk => ?_, hti, hah, hx.1, hx.2.1, hx.2.2.1, hI.bl⟩
            have := OwnL.row hI.r k hk
            have := hI.lt
            omega
          have HLV : Hid (lenV vr < ql) := by
            obtain ⟨ra, rc, hv, _⟩ := OwnN.irow hI.r
            show lenV vr < ql
            rw [hv]
            exact (unhide HNX).2.2.2
          clear hI
          go_wp2_with fail
          (try simp only [Exit.inBlock, Exit.then])
          (try go_wp2_with fail)
          exact ⟨⟨t + 1, R, _, by go_num, unhide HFS⟩, unhide HLV⟩
end Go.Proofs.YtepgdlgifempeaaDoor
