/- Goldman's middle, and centers. -/
import Derived.Test.YtcmddkekidgkoaaDoorM70
namespace Go.Proofs.YtcmddkekidgkoaaDoor
namespace Tre
section
variable {n m : Nat} {A B : Nat → Nat} {s : Nat → Nat → Bool}
/-- How many people are on the other side of an edge. -/
def Ps (n : Nat) (s : Nat → Nat → Bool) (p : Nat → Int) (e w : Nat) : Int := sm (fun v => if s e v = s e w then 0 else p v) n
def Sum (n m : Nat) (L : Nat → Int) (s : Nat → Nat → Bool) (p : Nat → Int) (w : Nat) : Int := sm (fun v => p v * D m L s w v) n
theorem Sum_cuts (n : Nat) (L : Nat → Int) (s : Nat → Nat → Bool) (p : Nat → Int) (w : Nat) : Sum n m L s p w = sm (fun e => L e * Ps n s p e w) m := by
  unfold Sum Ps
  have h1 : ∀ v, v < n → p v * D m L s w v = sm (fun e => L e * (if s e v = s e w then 0 else p v)) m := fun v _ => by
    unfold D
    rw [← sm_mul]
    refine sm_congr m (fun e _ => ?_)
    by_cases c : s e w = s e v
    · rw [if_pos c, if_pos c.symm]; omega
    · rw [if_neg c, if_neg (fun h => c h.symm), Int.mul_comm]
  rw [sm_congr n h1, sm_swap]
  exact sm_congr m (fun e _ => sm_mul _ _ n)
theorem Ps_same {p : Nat → Int} {e w x : Nat} (h : s e w = s e x) : Ps n s p e w = Ps n s p e x := by
  unfold Ps; rw [h]
theorem Ps_other {p : Nat → Int} {e w x : Nat} (h : s e w ≠ s e x) : Ps n s p e w + Ps n s p e x = sm p n := by
  unfold Ps
  rw [← sm_add]
  refine sm_congr n (fun v _ => ?_)
  show (if s e v = s e w then 0 else p v) + (if s e v = s e x then 0 else p v) = p v
  cases h1 : s e v <;> cases h2 : s e w <;> cases h3 : s e x <;> simp [h2, h3] at h ⊢
theorem goldman_half {L p : Nat → Int} (T : Tr n m A B s) (hL : ∀ i, i < m → 0 < L i) {w : Nat} (hmin : ∀ x, x < n → Sum n m L s p w ≤ Sum n m L s p x) {e x : Nat} (he : e < m) (hi : Inc A B e w x) : 2 * Ps n s p e w ≤ sm p n := by
  have hl := T.inc_lt he hi
  have h1 := hmin x hl.2
  rw [Sum_cuts, Sum_cuts] at h1
  have h2 : sm (fun e => L e * Ps n s p e w) m + L e * Ps n s p e x = sm (fun e => L e * Ps n s p e x) m + L e * Ps n s p e w := sm_upd (f := fun e => L e * Ps n s p e w) (g := fun e => L e * Ps n s p e x) m he (fun i hi' hne => by
    show L i * Ps n s p i w = L i * Ps n s p i x
    rw [Ps_same (T.inc_same he hi' hne hi).symm])
  have h3 := Ps_other (n := n) (p := p) (fun h => T.inc_ne he hi h.symm)
  have h4 : L e * Ps n s p e w ≤ L e * Ps n s p e x := by omega
  have h5 := Int.le_of_mul_le_mul_left h4 (hL e he)
  omega
theorem goldman_min {L p : Nat → Int} (T : Tr n m A B s) (hL : ∀ i, i < m → 0 ≤ L i) (hp : ∀ v, v < n → 0 ≤ p v) {w : Nat} (hw : w < n) (hhalf : ∀ e x, e < m → Inc A B e w x → 2 * Ps n s p e w ≤ sm p n) (x : Nat) : Sum n m L s p w ≤ Sum n m L s p x := by
  rw [Sum_cuts, Sum_cuts]
  refine sm_le m (fun e he => Int.mul_le_mul_of_nonneg_left ?_ (hL e he))
  by_cases c : s e w = s e x
  · rw [Ps_same c]; exact Int.le_refl _
  · have h1 := Ps_other (n := n) (p := p) c
    obtain ⟨f, y, hf, hinc, hsub⟩ := T.contain he hw
    have h2 : Ps n s p e w ≤ Ps n s p f w := by
      refine sm_le n (fun v hv => ?_)
      have := hp v hv
      show (if s e v = s e w then 0 else p v) ≤ (if s f v = s f w then 0 else p v)
      by_cases c2 : s e v = s e w
      · rw [if_pos c2]; split <;> omega
      · rw [if_neg c2, if_neg (hsub v hv c2)]; exact Int.le_refl _
    have h3 := hhalf f y hf hinc
    omega

/-- Who is on the way from a to b. -/
def On (m : Nat) (s : Nat → Nat → Bool) (a b c : Nat) : Prop := ∀ j, j < m → s j a = s j b → s j c = s j a
theorem On.split {L : Nat → Int} {a b c : Nat} (h : On m s a b c) : D m L s a b = D m L s a c + D m L s c b := by
  refine D_split (fun i hi => ?_)
  by_cases e : s i a = s i b
  · exact Or.inl (h i hi e)
  · cases h1 : s i a <;> cases h2 : s i b <;> cases h3 : s i c <;> simp [h1, h2] at e ⊢
theorem Tr.on_end (T : Tr n m A B s) {a b i v x : Nat} (ha : a < n) (hb : b < n) (hi : i < m) (hinc : Inc A B i v x) (hne : s i a ≠ s i b) : On m s a b v := by
  intro j hj hs
  apply Classical.byContradiction
  intro hv
  have hji : j ≠ i := fun e => hne (by rw [← e]; exact hs)
  have hx : s j x ≠ s j a := by rw [T.inc_same hi hj hji hinc]; exact hv
  have key := T.side hj (R := fun y => s j y = s j a → s i y = s i a) (fun q hq hqj => by
    by_cases c : q = i
    · subst c
      rcases hinc with ⟨g1, g2⟩ | ⟨g1, g2⟩
      · rw [g1, g2]; exact ⟨fun _ h => absurd h hx, fun _ h => absurd h hv⟩
      · rw [g1, g2]; exact ⟨fun _ h => absurd h hv, fun _ h => absurd h hx⟩
    · show (s j (A q) = s j a → s i (A q) = s i a) ↔ (s j (B q) = s j a → s i (B q) = s i a)
      rw [T.same j q hj hq (Ne.symm hqj), T.same i q hi hq (Ne.symm c)]) ha hb hs (fun _ => rfl)
  exact hne (key hs.symm).symm
theorem Tr.between (T : Tr n m A B s) {L : Nat → Int} {d M : Int} {a b c : Nat} (ha : a < n) (hb : b < n) (hc : c < n) (hd : ∀ u v, u < n → v < n → D m L s u v ≤ d) (hab : D m L s a b = d) (hon : On m s a b c) (h1 : 2 * D m L s c a ≤ M) (h2 : 2 * D m L s c b ≤ M) {v : Nat} (hv : v < n) : 2 * D m L s c v ≤ M := by
  have hsp := hon.split (L := L)
  rw [D_comm L s a c] at hsp
  by_cases c1 : ∃ e, e < m ∧ s e v ≠ s e c ∧ s e a ≠ s e c
  · by_cases c2 : ∃ e, e < m ∧ s e v ≠ s e c ∧ s e b ≠ s e c
    · exfalso
      obtain ⟨e, he, e1, e2⟩ := c1
      obtain ⟨g, hg, g1, g2⟩ := c2
      obtain ⟨f, x, hf, hfi, hfs⟩ := T.contain he hc
      obtain ⟨k, y, hk, hki, hks⟩ := T.contain hg hc
      have k1 := hfs v hv e1
      have k2 := hfs a ha e2
      have k3 := hks v hv g1
      have k4 := hks b hb g2
      by_cases hfk : f = k
      · subst hfk
        exact k2 (hon f hf (bne k2 k4)).symm
      · exact k3 (T.apart hf hk hfk hfi hki hv k1)
    · have h3 : D m L s v b = D m L s v c + D m L s c b := D_split (fun i hi => by
        by_cases q1 : s i v = s i c
        · exact Or.inl q1.symm
        · by_cases q2 : s i b = s i c
          · exact Or.inr q2.symm
          · exact absurd ⟨i, hi, q1, q2⟩ c2)
      have := hd v b hv hb
      rw [D_comm L s v c] at h3
      omega
  · have h3 : D m L s v a = D m L s v c + D m L s c a := D_split (fun i hi => by
      by_cases q1 : s i v = s i c
      · exact Or.inl q1.symm
      · by_cases q2 : s i a = s i c
        · exact Or.inr q2.symm
        · exact absurd ⟨i, hi, q1, q2⟩ c1)
    have := hd v a hv ha
    rw [D_comm L s v c] at h3
    omega
theorem Tr.center (T : Tr n m A B s) {L : Nat → Int} {d M : Int} {a b : Nat} (hL : ∀ i, i < m → 0 ≤ L i ∧ L i ≤ M) (hM : 0 ≤ M) (ha : a < n) (hb : b < n) (hd : ∀ u v, u < n → v < n → D m L s u v ≤ d) (hab : D m L s a b = d) : ∃ c, c < n ∧ ∀ v, v < n → 2 * D m L s c v ≤ d + M := by
  have hd0 : 0 ≤ d := by rw [← hab]; exact D_nonneg (fun i hi => (hL i hi).1) s a b
  obtain ⟨X, hX⟩ : ∃ X : Nat → Int, X = fun v => sm (fun i => if s i a = s i b then 0 else if s i a = s i v then 0 else L i) m := ⟨_, rfl⟩
  have hXa : X a = 0 := by
    rw [hX]
    show sm _ m = 0
    rw [sm_congr (g := fun _ => 0) m (fun i _ => by show (if s i a = s i b then 0 else if s i a = s i a then 0 else L i) = 0; rw [if_pos rfl]; split <;> rfl), sm_zero]
  have hXb : X b = d := by
    rw [hX, ← hab]
    show sm _ m = sm _ m
    refine sm_congr m (fun i _ => ?_)
    by_cases c : s i a = s i b
    · rw [if_pos c, if_pos c]
    · rw [if_neg c]
  have hXon : ∀ v, On m s a b v → X v = D m L s a v := fun v h => by
    rw [hX]
    show sm _ m = sm _ m
    refine sm_congr m (fun i hi => ?_)
    by_cases c : s i a = s i b
    · rw [if_pos c, if_pos (h i hi c).symm]
    · rw [if_neg c]
  by_cases hb2 : 2 * X b ≤ d
  · refine ⟨a, ha, fun v hv => ?_⟩
    have := hd a v ha hv
    omega
  have hex : ∃ i x y, i < m ∧ Inc A B i x y ∧ 2 * X x ≤ d ∧ ¬ 2 * X y ≤ d := by
    apply Classical.byContradiction
    intro h
    refine hb2 (T.con (fun v => 2 * X v ≤ d) (fun i hi => ⟨fun h1 => Classical.byContradiction fun h2 => h ⟨i, A i, B i, hi, Or.inl ⟨rfl, rfl⟩, h1, h2⟩, fun h1 => Classical.byContradiction fun h2 => h ⟨i, B i, A i, hi, Or.inr ⟨rfl, rfl⟩, h1, h2⟩⟩) a b ha hb ?_)
    show 2 * X a ≤ d
    omega
  obtain ⟨i, x, y, hi, hinc, hx, hy⟩ := hex
  have hl := T.inc_lt hi hinc
  have hu : X y + (if s i a = s i b then 0 else if s i a = s i x then 0 else L i) = X x + (if s i a = s i b then 0 else if s i a = s i y then 0 else L i) := by
    rw [hX]
    exact sm_upd (f := fun j => if s j a = s j b then 0 else if s j a = s j y then 0 else L j) (g := fun j => if s j a = s j b then 0 else if s j a = s j x then 0 else L j) m hi (fun j hj hne => by
      show (if s j a = s j b then 0 else if s j a = s j y then 0 else L j) = (if s j a = s j b then 0 else if s j a = s j x then 0 else L j)
      rw [T.inc_same hi hj hne hinc])
  have hLi := hL i hi
  have hsi : s i a ≠ s i b := fun h => by rw [if_pos h, if_pos h] at hu; omega
  have hsy := T.inc_ne hi hinc
  have hXy : X y ≤ X x + L i := by
    rw [if_neg hsi, if_neg hsi] at hu
    by_cases c1 : s i a = s i x
    · rw [if_pos c1, if_neg (fun h => hsy (h.symm.trans c1))] at hu; omega
    · rw [if_neg c1] at hu
      by_cases c2 : s i a = s i y
      · rw [if_pos c2] at hu; omega
      · rw [if_neg c2] at hu; omega
  have onx := T.on_end ha hb hi hinc hsi
  have ony := T.on_end ha hb hi (show Inc A B i y x from hinc.elim (fun h => Or.inr ⟨h.2, h.1⟩) (fun h => Or.inl ⟨h.2, h.1⟩)) hsi
  have ex := hXon x onx
  have ey := hXon y ony
  have sx := onx.split (L := L)
  have sy := ony.split (L := L)
  rw [D_comm L s a x] at sx ex
  rw [D_comm L s a y] at sy ey
  by_cases hc : 2 * D m L s x b ≤ d + M
  · exact ⟨x, hl.1, fun v hv => T.between ha hb hl.1 hd hab onx (by omega) hc hv⟩
  · exact ⟨y, hl.2, fun v hv => T.between ha hb hl.2 hd hab ony (by omega) (by omega) hv⟩
end
end Tre
end Go.Proofs.YtcmddkekidgkoaaDoor
