/- What the laws of a server need of classes: pieces, sizes, and the reverse row. -/
import Derived.Test.YtbboacmjbffmhaaGreatDoorS7
import Derived.Test.YtbboacmjbffmhaaGreatDoorS8
import Derived.Test.YtbboacmjbffmhaaGreatDoorS9
namespace Go.Proofs.YtbboacmjbffmhaaGreatDoor
open Go.RowKit Go.Sort Go.Shelf

/-- The sign of a comparison. -/
def cmpv (a b : Rat) : Int := Wd.sg (a.num * b.den) (b.num * a.den)
theorem cmpv_lt {a b : Rat} (h : a < b) : cmpv a b = -1 := by
  have h' := Rat.lt_iff a b |>.1 h
  unfold cmpv Wd.sg
  rw [if_pos h']
theorem cmpv_ge {a b : Rat} (h : b ≤ a) : 0 ≤ cmpv a b ∧ cmpv a b ≤ 1 := by
  have h' := Rat.le_iff b a |>.1 h
  unfold cmpv
  exact sg_ge h'
theorem cmpv_le {a b : Rat} (h : a ≤ b) : -1 ≤ cmpv a b ∧ cmpv a b ≤ 0 := by
  have h' := Rat.le_iff a b |>.1 h
  unfold cmpv Wd.sg
  by_cases e : a.num * b.den < b.num * a.den
  · rw [if_pos e]; exact ⟨by decide, by decide⟩
  · rw [if_neg e, if_pos (by omega)]; exact ⟨by decide, by decide⟩
theorem cmpR_all (va vb : Value) (qa qb : Rat) (w : World) (ha : RatIs w va qa) (hb : RatIs w vb qb) (j : Nat) (ra : RS qa j) (rb : RS qb j) (hj : j ≤ KK) :
    Calls Tryz.prog 14 #[va, vb] w fun e w' => e = .returned (.int .i64 (cmpv qa qb)) ∧ Below w.heap.size w w' :=
  cmpR_any va vb qa qb w ha hb (sm_of ra.1 hj) (sm_of rb.1 hj) (sm_of ra.2 hj) (sm_of rb.2 hj)

theorem one_get (k : Rat × List Rat) : [k][0]! = k := rfl
/-- One class of a row. -/
theorem ClassesAre.piece {w : World} {b o c : Nat} {ks : List (Rat × List Rat)} {n : Nat} (h : ClassesAre w (.slice (some ⟨b, o, none⟩) n c) ks) {i d : Nat} (hi : i < ks.length) (hd : 1 ≤ d) (hd2 : d ≤ 9223372036854775807) : ClassesAre w (.slice (some ⟨b, o + i * 4, none⟩) 1 d) [ks[i]!] := by
  obtain ⟨a, c', e, h1, h2, h3⟩ := h
  obtain ⟨b', o', ea, hlt, hc⟩ := h3 (by omega)
  injection e with e1 e2 e3
  rw [← e1] at ea
  injection ea with ea
  injection ea with eb eo
  subst eb eo
  refine ⟨some ⟨b, o + i * 4, none⟩, d, rfl, hd, hd2, fun _ => ⟨b, o + i * 4, rfl, hlt, fun j hj => ?_⟩⟩
  obtain rfl : j = 0 := by simpa using hj
  obtain ⟨t, l, k, r⟩ := hc i hi
  refine ⟨t, l, ?_, r⟩
  simpa using k
theorem sm_one {ks : List (Rat × List Rat)} (h : SmC ks) {i : Nat} (hi : i < ks.length) : SmC [ks[i]!] := fun j hj => by
  obtain rfl : j = 0 := by simpa using hj
  exact h i hi
theorem good_one {ks : List (Rat × List Rat)} (h : OkC ks) {i : Nat} (hi : i < ks.length) : GoodC [ks[i]!] := ⟨by simp, fun j hj => by
  obtain rfl : j = 0 := by simpa using hj
  exact h i hi⟩
theorem ld_one (ks : List (Rat × List Rat)) (i : Nat) : Bth.ps (ldC [ks[i]!]) 1 = ldC ks i := by
  show (0 : Rat) + ldC ks i = ldC ks i
  grind
theorem lf_first (ks : List (Rat × List Rat)) : lfC [ks[0]!] 1 = lfC ks 1 := rfl
theorem fit_one {ks : List (Rat × List Rat)} (h : FitC ks) : FitC [ks[0]!] :=
  ⟨good_one h.1.2 h.1.1, by show 0 < lfC [ks[0]!] 1; rw [lf_first]; exact lfC_pos h.1.2 h.2 h.1.1⟩
theorem stays_first (ks : List (Rat × List Rat)) : staysC [ks[0]!] 0 = staysC ks 0 := rfl
theorem stays_sum (ks : List (Rat × List Rat)) : staysC [ks[0]!] 0 = mo 1 ks 0 + waitC [ks[0]!] := by
  show (mo 1 ks 0 + hfC [ks[0]!] 1 / lfC [ks[0]!] 1) / (1 : Rat) = mo 1 ks 0 + hfC [ks[0]!] 1 / lfC [ks[0]!] 1
  exact Bth.eq_div (by decide) (by grind)
theorem waits_ge {ks : List (Rat × List Rat)} (h : FitC ks) {i : Nat} (hi : i < ks.length) : waitsC ks 0 ≤ waitsC ks i :=
  Srv.first (ld_nn h.1.2 1) h.2 (hfC_nn h.1.2 (Nat.le_refl _)) hi
theorem lf_num {ks : List (Rat × List Rat)} (h : FitC ks) {k : Nat} (hk : k ≤ ks.length) : (lfC ks k).num ≠ 0 := num_of_pos (lfC_pos h.1.2 h.2 hk)
theorem lf_RS' {ks : List (Rat × List Rat)} (sm : SmC ks) (hl : ks.length ≤ 6) {k : Nat} (hk : k ≤ ks.length) : RS (lfC ks k) 300 := (lfC_RS sm k hk).mono (by omega)
theorem hf_RS' {ks : List (Rat × List Rat)} (sm : SmC ks) (hl : ks.length ≤ 6) {k : Nat} (hk : k ≤ ks.length) : RS (hfC ks k) 300 := (hfC_RS sm k hk).mono (by omega)
theorem wait_RS {ks : List (Rat × List Rat)} (sm : SmC ks) (hl : ks.length ≤ 6) (h : FitC ks) : RS (waitC ks) 600 := (RS.div' (hf_RS' sm hl (Nat.le_refl _)) (lf_RS' sm hl (Nat.le_refl _)) (lf_num h (Nat.le_refl _))).mono (by omega)
theorem waits_RS {ks : List (Rat × List Rat)} (sm : SmC ks) (hl : ks.length ≤ 6) (h : FitC ks) {i : Nat} (hi : i < ks.length) : RS (waitsC ks i) 900 := (RS.div' (hf_RS' sm hl (Nat.le_refl _)) (RS.mul (lf_RS' sm hl (k := i) (by omega)) (lf_RS' sm hl (k := i + 1) (by omega))) (fun e => by
  rcases Rat.mul_eq_zero.1 (Rat.num_eq_zero.1 e) with h' | h'
  · exact lf_num h (k := i) (by omega) (Rat.num_eq_zero.2 h')
  · exact lf_num h (k := i + 1) (by omega) (Rat.num_eq_zero.2 h'))).mono (by omega)
theorem stays_RS {ks : List (Rat × List Rat)} (sm : SmC ks) (hl : ks.length ≤ 6) (h : FitC ks) {i : Nat} (hi : i < ks.length) : RS (staysC ks i) 1000 := (RS.div' (RS.add (mo_RS sm (p := 1) (by omega) hi) (RS.div' (hf_RS' sm hl (k := i + 1) (by omega)) (lf_RS' sm hl (k := i + 1) (by omega)) (lf_num h (k := i + 1) (by omega)))) (lf_RS' sm hl (k := i) (by omega)) (lf_num h (k := i) (by omega))).mono (by omega)
/-- Classes of plain ones are small. -/
theorem pqs_get {ps : List (Int × Int)} {j : Nat} (h : j < ps.length) : (pqs ps)[j]! = pq ps[j]! := by simp [pqs, h]
theorem csOf_sm {w : World} {v : Value} {ps : List ((Int × Int) × List (Int × Int))} (h : ClsAre w v ps) (hl : ∀ j, j < ps.length → (ps[j]!).2.length ≤ 12) : SmC (csOf ps) := fun j hj => by
  rw [csOf_length] at hj
  rw [csOf_get hj]
  obtain ⟨a, c, _, _, _, h4, h3⟩ := h
  obtain ⟨b, o, _, _, hc⟩ := h3 (by omega)
  obtain ⟨l, _, hp⟩ := hc j hj
  obtain ⟨_, _, _, _, _, hi, _⟩ := hp
  refine ⟨pq_RS (h4 j hj).1 (h4 j hj).2, by rw [pqs_length]; exact hl j hj, fun i hi' => ?_⟩
  rw [pqs_length] at hi'
  show RS (pqs (ps[j]!).2)[i]! 1
  rw [pqs_get hi']
  exact pq_RS (hi i hi').1 (hi i hi').2
/-- Loads times waits. -/
def cvS (ks : List (Rat × List Rat)) (k : Nat) : Rat := Bth.ps (fun j => ldC ks j * waitsC ks j) k
theorem cvS_RS {ks : List (Rat × List Rat)} (sm : SmC ks) (hl : ks.length ≤ 6) (h : FitC ks) : ∀ k, k ≤ ks.length → RS (cvS ks k) (k * 950 + 1)
  | 0, _ => RS.zero
  | k + 1, hk => (RS.add (cvS_RS sm hl h k (by omega)) (RS.mul (ld_RS sm (p := 1) (by omega) (show k < ks.length by omega)) (waits_RS sm hl h (show k < ks.length by omega)))).mono (by omega)
theorem cvS_all {ks : List (Rat × List Rat)} (h : FitC ks) : cvS ks ks.length = Bth.ps (ldC ks) ks.length * waitC ks :=
  Srv.conserves (ld_nn h.1.2 1) h.2 (hfC ks ks.length) ks.length (Nat.le_refl _)
theorem psl_RS {ks : List (Rat × List Rat)} (sm : SmC ks) (hl : ks.length ≤ 6) : ∀ k, k ≤ ks.length → RS (Bth.ps (ldC ks) k) (k * 42 + 1)
  | 0, _ => RS.zero
  | k + 1, hk => (RS.add (psl_RS sm hl k (by omega)) (ld_RS sm (p := 1) (by omega) (show k < ks.length by omega))).mono (by omega)
/-- The reverse row. -/
theorem rev_get {ks : List (Rat × List Rat)} {i : Nat} (h : i < ks.length) : ks.reverse[i]! = ks[ks.length - 1 - i]! := by
  rw [List.getElem!_eq_getElem?_getD, List.getElem!_eq_getElem?_getD, List.getElem?_reverse h]
theorem rev_sm {ks : List (Rat × List Rat)} (h : SmC ks) : SmC ks.reverse := fun j hj => by
  rw [List.length_reverse] at hj
  rw [rev_get hj]
  exact h _ (by omega)
theorem lfC_rev (ks : List (Rat × List Rat)) : lfC ks.reverse ks.length = lfC ks ks.length := by
  have e := Srv.lf_rev (rt ks) (mo 1 ks) ks.length
  unfold lfC
  rw [← e, Srv.lf_ps, Srv.lf_ps]
  rw [Bth.ps_congr ks.length (f := fun i => rt ks.reverse i * mo 1 ks.reverse i) (g := fun i => rt ks (ks.length - 1 - i) * mo 1 ks (ks.length - 1 - i)) (fun j hj => by
    show (ks.reverse[j]!).1 * mo 1 ks.reverse j = (ks[ks.length - 1 - j]!).1 * mo 1 ks (ks.length - 1 - j)
    unfold mo
    rw [rev_get hj])]
theorem hfC_rev (ks : List (Rat × List Rat)) : hfC ks.reverse ks.length = hfC ks ks.length := by
  have e := Srv.hf_rev (rt ks) (mo 2 ks) ks.length
  unfold hfC
  rw [← e, Srv.hf_ps, Srv.hf_ps]
  exact Bth.ps_congr ks.length (fun j hj => by
    show (ks.reverse[j]!).1 * mo 2 ks.reverse j / 2 = (ks[ks.length - 1 - j]!).1 * mo 2 ks (ks.length - 1 - j) / 2
    unfold mo
    rw [rev_get hj])
theorem rev_fit {ks : List (Rat × List Rat)} (h : FitC ks) : FitC ks.reverse :=
  ⟨⟨by rw [List.length_reverse]; exact h.1.1, fun j hj => by
    rw [List.length_reverse] at hj
    rw [rev_get hj]
    exact h.1.2 _ (by omega)⟩, by rw [List.length_reverse, lfC_rev]; exact h.2⟩
theorem cvS_rev {ks : List (Rat × List Rat)} (h : FitC ks) : cvS ks.reverse ks.length = cvS ks ks.length := by
  have e := cvS_all (rev_fit h)
  rw [List.length_reverse] at e
  rw [e, cvS_all h]
  have a := Srv.lf_ps (rt ks.reverse) (mo 1 ks.reverse) ks.length
  have b := Srv.lf_ps (rt ks) (mo 1 ks) ks.length
  have c : lfC ks.reverse ks.length = 1 - Bth.ps (ldC ks.reverse) ks.length := a
  have d : lfC ks ks.length = 1 - Bth.ps (ldC ks) ks.length := b
  rw [lfC_rev, d] at c
  have g : Bth.ps (ldC ks.reverse) ks.length = Bth.ps (ldC ks) ks.length := by grind
  rw [g]
  unfold waitC
  rw [List.length_reverse, hfC_rev, lfC_rev]
end Go.Proofs.YtbboacmjbffmhaaGreatDoor
