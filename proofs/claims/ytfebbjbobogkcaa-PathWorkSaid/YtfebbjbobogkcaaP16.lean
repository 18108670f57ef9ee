/- PathWork: the whole walk. -/
import Derived.Test.YtfebbjbobogkcaaP14
namespace Go.Proofs.Ytfebbjbobogkcaa
open Go.RowKit Go.Sort Sim

theorem wrap_small {x : Int} (h1 : -9223372036854775808 ≤ x) (h2 : x ≤ 9223372036854775807) : IntKind.i64.wrap x = x := by rw [IntKind.wrap_i64]; omega

theorem wk_bd {n : Nat} {f : Nat → T3} (hg : Good n f) (at_ : Int) : ∀ k, k ≤ n → 0 ≤ wk f at_ k ∧ wk f at_ k ≤ (k : Int) * 1000000000
  | 0, _ => by unfold wk; omega
  | k + 1, h => by
    have ih := wk_bd hg at_ k (by omega)
    have hs := hg.size k (by omega)
    have hf := hg.few
    show 0 ≤ (if (f k).1 ≤ at_ then IntKind.i64.wrap (wk f at_ k + (f k).2.1) else wk f at_ k) ∧ (if (f k).1 ≤ at_ then IntKind.i64.wrap (wk f at_ k + (f k).2.1) else wk f at_ k) ≤ _
    split
    · rw [wrap_small (by omega) (by omega)]; omega
    · omega

theorem clip_take (u : Nat) (ps : List Pc) (k : Nat) : clip u (ps.take k) ≤ clip u ps := by
  have := clip_append u (ps.take k) (ps.drop k)
  rw [List.take_append_drop] at this
  omega

theorem wpc_take {ps : List Pc} (h : ∀ p ∈ ps, p.2.1 < p.2.2 ∧ p.2.2 ≤ 61000000000) (at_ W : Int) (hW0 : 0 ≤ W) (hW1 : W ≤ 60000000000) (hc : clip at_.toNat ps ≤ 60000000000) : ∀ k, k ≤ ps.length → wpc (fun i => (pcsT ps)[i]!) at_ W k = W - ((clip at_.toNat (ps.take k) : Nat) : Int)
  | 0, _ => by show W = W - ((0 : Nat) : Int); omega
  | k + 1, hk => by
    have ih := wpc_take h at_ W hW0 hW1 hc k (by omega)
    have hlt : k < ps.length := by omega
    have hm := h ps[k] (List.getElem_mem hlt)
    have hct := clip_take at_.toNat ps (k + 1)
    obtain ⟨⟨a, b, c⟩, hp⟩ : ∃ p, ps[k] = p := ⟨_, rfl⟩
    rw [hp] at hm
    simp only at hm
    have hg : (fun i => (pcsT ps)[i]!) k = ((a : Int), (b : Int), (c : Int)) := by
      show (pcsT ps)[k]! = _
      rw [pcsT_get hlt, hp]; rfl
    have hcn : cnts ((fun i => (pcsT ps)[i]!) k) = true := by rw [hg]; unfold cnts; simp only; exact decide_eq_true (by omega)
    have e : clip at_.toNat (ps.take (k + 1)) = clip at_.toNat (ps.take k) + (min c at_.toNat - b) := by
      rw [List.take_succ_eq_append_getElem hlt, clip_append, hp]
      show _ + ((min c at_.toNat - b) + 0) = _
      omega
    show (if cnts ((fun i => (pcsT ps)[i]!) k) = true ∧ ((fun i => (pcsT ps)[i]!) k).2.1 < min ((fun i => (pcsT ps)[i]!) k).2.2 at_ then IntKind.i64.wrap (wpc (fun i => (pcsT ps)[i]!) at_ W k - (min ((fun i => (pcsT ps)[i]!) k).2.2 at_ - ((fun i => (pcsT ps)[i]!) k).2.1)) else wpc (fun i => (pcsT ps)[i]!) at_ W k) = _
    rw [ih, hg] 
    rw [hg] at hcn
    simp only
    by_cases hb : (b : Int) < min (c : Int) at_
    · rw [if_pos ⟨hcn, hb⟩, wrap_small (by omega) (by omega), e]; omega
    · rw [if_neg (fun x => hb x.2), e]; omega

/-- As much work, by any two rules. -/
theorem work_same {n : Nat} {f : Nat → T3} (hg : Good n f) {r s t u : Nat} (ht : Done (qOf n f r) t) (hu : Done (qOf n f s) u) (at_ : Int) :
    wpc (fun i => (pcsT (sim (qOf n f r) t).ps)[i]!) at_ (wk f at_ n) (pcsT (sim (qOf n f r) t).ps).length = wpc (fun i => (pcsT (sim (qOf n f s) u).ps)[i]!) at_ (wk f at_ n) (pcsT (sim (qOf n f s) u).ps).length := by
  have hW := wk_bd hg at_ n (Nat.le_refl _)
  have hfew := hg.few
  have hb : ∀ {r t : Nat}, Done (qOf n f r) t → clip at_.toNat (sim (qOf n f r) t).ps ≤ 60000000000 := fun {r t} h => by
    rw [clip_sim]
    have h1 := cnt_lf (qOf n f r) (min at_.toNat t)
    have h2 := sizes_fit hg r
    have h3 : nsum (qOf n f r).S (qOf n f r).N ≤ 60000000000 := h2
    omega
  rw [pcsT_length, pcsT_length, wpc_take (fun p hp => by have := ps_fit hg r ht p hp; exact this.2.2) at_ _ (by omega) (by omega) (hb ht) _ (Nat.le_refl _),
    wpc_take (fun p hp => by have := ps_fit hg s hu p hp; exact this.2.2) at_ _ (by omega) (by omega) (hb hu) _ (Nat.le_refl _), List.take_length, List.take_length,
    clip_rules (q := qOf n f r) (p := qOf n f s) rfl (fun _ _ => rfl) (fun _ _ => rfl) ht hu]

theorem lens_take {ps : List Pc} {t : Nat} (h : ∀ p ∈ ps, p.2.1 < p.2.2 ∧ p.2.2 ≤ t) : ∀ k, k ≤ ps.length → isum (fun i => ((pcsT ps)[i]!).2.2 - ((pcsT ps)[i]!).2.1) k = ((clip t (ps.take k) : Nat) : Int)
  | 0, _ => rfl
  | k + 1, hk => by
    have ih := lens_take h k (by omega)
    have hlt : k < ps.length := by omega
    have hm := h ps[k] (List.getElem_mem hlt)
    obtain ⟨⟨a, b, c⟩, hp⟩ : ∃ p, ps[k] = p := ⟨_, rfl⟩
    rw [hp] at hm
    simp only at hm
    show isum _ k + (((pcsT ps)[k]!).2.2 - ((pcsT ps)[k]!).2.1) = _
    rw [ih, pcsT_get hlt, hp, List.take_succ_eq_append_getElem hlt, clip_append, hp]
    show _ + ((c : Int) - (b : Int)) = ((_ + ((min c t - b) + 0) : Nat) : Int)
    omega
theorem isum_sizes {n : Nat} {f : Nat → T3} (hg : Good n f) (r : Nat) : ∀ k, k ≤ n → isum (fun i => (f i).2.1) k = ((nsum (qOf n f r).S k : Nat) : Int)
  | 0, _ => rfl
  | k + 1, h => by
    have := hg.size k (by omega)
    show isum _ k + (f k).2.1 = ((nsum (qOf n f r).S k + (f k).2.1.toNat : Nat) : Int)
    rw [isum_sizes hg r k (by omega)]
    omega
theorem lens_all {n : Nat} {f : Nat → T3} (hg : Good n f) {r t : Nat} (ht : Done (qOf n f r) t) : isum (fun i => ((pcsT (sim (qOf n f r) t).ps)[i]!).2.2 - ((pcsT (sim (qOf n f r) t).ps)[i]!).2.1) (pcsT (sim (qOf n f r) t).ps).length = isum (fun i => (f i).2.1) n := by
  rw [pcsT_length, lens_take (t := t) (fun p hp => ⟨((ps_ok t).1 p hp).2.2.1, ((ps_ok t).1 p hp).2.2.2⟩) _ (Nat.le_refl _), List.take_length, clip_all ht, isum_sizes hg r n (Nat.le_refl _)]
  rfl

/-- What each piece is. -/
structure PcOk (n : Nat) (f g : Nat → T3) (m : Nat) : Prop where
  job : ∀ i, i < m → ∃ j : Nat, (g i).1 = (j : Int) ∧ j < n ∧ (f j).1 ≤ (g i).2.1
  pos : ∀ i, i < m → 0 ≤ (g i).2.1 ∧ (g i).2.1 < (g i).2.2 ∧ (g i).2.2 ≤ 61000000000
  next : ∀ i, i + 1 < m → (g i).2.2 ≤ (g (i + 1)).2.1
theorem pc_ok {n : Nat} {f : Nat → T3} (hg : Good n f) {r t : Nat} (ht : Done (qOf n f r) t) : PcOk n f (fun i => (pcsT (sim (qOf n f r) t).ps)[i]!) (pcsT (sim (qOf n f r) t).ps).length := by
  have hp := ps_fit hg r ht
  have hw := (ps_ok (q := qOf n f r) t).2
  rw [pcsT_length]
  refine ⟨fun i hi => ?_, fun i hi => ?_, fun i hi => ?_⟩
  · have h := hp _ (List.getElem_mem hi)
    have h0 := hg.at0 _ h.1
    refine ⟨((sim (qOf n f r) t).ps[i]).1, by show ((pcsT _)[i]!).1 = _; rw [pcsT_get hi]; rfl, h.1, ?_⟩
    show _ ≤ ((pcsT _)[i]!).2.1
    rw [pcsT_get hi]
    show _ ≤ ((((sim (qOf n f r) t).ps[i]).2.1 : Nat) : Int)
    have := h.2.1
    omega
  · have h := hp _ (List.getElem_mem hi)
    show 0 ≤ ((pcsT _)[i]!).2.1 ∧ ((pcsT _)[i]!).2.1 < ((pcsT _)[i]!).2.2 ∧ ((pcsT _)[i]!).2.2 ≤ _
    rw [pcsT_get hi]
    show 0 ≤ ((((sim (qOf n f r) t).ps[i]).2.1 : Nat) : Int) ∧ ((((sim (qOf n f r) t).ps[i]).2.1 : Nat) : Int) < ((((sim (qOf n f r) t).ps[i]).2.2 : Nat) : Int) ∧ ((((sim (qOf n f r) t).ps[i]).2.2 : Nat) : Int) ≤ _
    omega
  · have h := List.pairwise_iff_getElem.1 hw i (i + 1) (by omega) hi (by omega)
    show ((pcsT _)[i]!).2.2 ≤ ((pcsT _)[i + 1]!).2.1
    rw [pcsT_get (by omega), pcsT_get hi]
    show ((((sim (qOf n f r) t).ps[i]).2.2 : Nat) : Int) ≤ ((((sim (qOf n f r) t).ps[i + 1]).2.1 : Nat) : Int)
    omega
end Go.Proofs.Ytfebbjbobogkcaa
