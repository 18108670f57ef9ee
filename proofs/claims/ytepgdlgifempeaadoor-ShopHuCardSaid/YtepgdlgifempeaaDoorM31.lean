/- Several machines: McNaughton's parts; parts that may be carried out. -/
import Derived.Test.YtepgdlgifempeaaDoorM28
namespace Go.Proofs.YtepgdlgifempeaaDoor.Shp
open Lin

/-- How long a job is at work, by parts. -/
def jsum (j : Nat) : List Prt → Int
  | [] => 0
  | p :: ps => (if p.j = j then p.b - p.a else 0) + jsum j ps
theorem jsum_append (j : Nat) : ∀ ps qs, jsum j (ps ++ qs) = jsum j ps + jsum j qs
  | [], qs => by show jsum j qs = 0 + _; omega
  | p :: ps, qs => by show _ + jsum j (ps ++ qs) = _ + jsum j ps + _; rw [jsum_append j ps qs]; omega
/-- Two parts of one machine, or of one job, that overlap. -/
def Over (y x : Prt) : Prop := (y.c = x.c ∨ y.j = x.j) ∧ x.a < y.b ∧ y.a < x.b
/-- Parts that may be carried out. -/
structure Fits (n m : Nat) (l : Nat → Int) (E : Int) (ps : List Prt) : Prop where
  each : ∀ p ∈ ps, p.c < m ∧ p.j < n ∧ 0 ≤ p.a ∧ p.a ≤ p.b ∧ p.b ≤ E
  apart : ps.Pairwise (fun y x => ¬ Over y x)
  sum : ∀ j, j < n → jsum j ps = l j

theorem jsum_prts (m : Nat) (l : Nat → Int) (j : Nat) : ∀ (xs : List Nat) (L : Nat → Int), jsum j (prts m l L xs) = lsum (fun x => if x = j then l x else 0) xs
  | [], _ => rfl
  | x :: xs, L => by
    show (if x = j then L (am L m) + l x - L (am L m) else 0) + jsum j (prts m l (nxt m l L x) xs) = (if x = j then l x else 0) + _
    rw [jsum_prts m l j xs]
    congr 1
    split
    · omega
    · rfl
theorem lsum_pick {j : Nat} (l : Nat → Int) : ∀ (xs : List Nat), xs.Nodup → lsum (fun x => if x = j then l x else 0) xs = if j ∈ xs then l j else 0
  | [], _ => by rw [if_neg List.not_mem_nil]; rfl
  | x :: xs, h => by
    have hx := List.nodup_cons.1 h
    show (if x = j then l x else 0) + lsum _ xs = _
    rw [lsum_pick l xs hx.2]
    by_cases c : x = j
    · subst c; rw [if_pos rfl, if_neg hx.1, if_pos (List.mem_cons_self ..)]; omega
    · rw [if_neg c]
      by_cases c2 : j ∈ xs
      · rw [if_pos c2, if_pos (List.mem_cons_of_mem _ c2)]; omega
      · rw [if_neg c2, if_neg]
        · omega
        · intro h2
          rcases List.mem_cons.1 h2 with e | e
          · exact c e.symm
          · exact c2 e
/-- A list's parts may be carried out. -/
theorem fits_prts {n m : Nat} {l : Nat → Int} {xs : List Nat} (hm : 0 < m) (hp : xs.Perm (List.range n)) (hl : ∀ i, i < n → 0 ≤ l i) : Fits n m l (endP 0 (prts m l zer xs)) (prts m l zer xs) := by
  have hx : ∀ x ∈ xs, x < n := fun x h => List.mem_range.1 (hp.subset h)
  have hl' : ∀ x ∈ xs, 0 ≤ l x := fun x h => hl x (hx x h)
  have hd : xs.Nodup := hp.nodup_iff.2 List.nodup_range
  refine ⟨fun p h => ?_, ?_, fun j hj => ?_⟩
  · have h1 := prts_mem m l xs zer hm hl' (fun _ => Int.le_refl _) p h
    have h2 := endP_ge _ 0 p h
    have h3 := hl' _ h1.2.1
    exact ⟨h1.1, hx _ h1.2.1, h1.2.2.1, by omega, h2⟩
  · have h1 := prts_apart m l xs zer hl'
    have h2 : (prts m l zer xs).Pairwise (fun y x => y.j ≠ x.j) := by
      have : ((prts m l zer xs).map Prt.j).Nodup := by rw [prts_jobs]; exact hd
      exact List.pairwise_map.1 this
    refine (h1.and h2).imp ?_
    rintro y x ⟨h3, h4⟩ ⟨h5, h6, h7⟩
    rcases h5 with h5 | h5
    · have := h3 h5; omega
    · exact h4 h5
  · rw [jsum_prts, lsum_pick l xs hd, if_pos (hp.symm.subset (List.mem_range.2 hj))]

/-- McNaughton: a piece of the long line, cut where machines end. -/
def seg (E j : Nat) : Nat → Nat → Nat → List Prt
  | 0, _, _ => []
  | k + 1, P, Q => if P < Q then ⟨P / E, j, ((P - P / E * E : Nat) : Int), ((min Q ((P / E + 1) * E) - P / E * E : Nat) : Int)⟩ :: seg E j k (min Q ((P / E + 1) * E)) Q else []
theorem seg_done (E j k P : Nat) : seg E j k P P = [] := by
  cases k with
  | zero => rfl
  | succ k => exact if_neg (Nat.lt_irrefl _)
theorem seg_step {E j k P Q : Nat} (h : P < Q) : seg E j (k + 1) P Q = ⟨P / E, j, ((P - P / E * E : Nat) : Int), ((min Q ((P / E + 1) * E) - P / E * E : Nat) : Int)⟩ :: seg E j k (min Q ((P / E + 1) * E)) Q := if_pos h
/-- So many pieces do. -/
def Suf (E k P Q : Nat) : Prop := P ≤ Q ∧ ((k = 0 ∧ Q = P) ∨ (k = 1 ∧ Q ≤ (P / E + 1) * E) ∨ (k = 2 ∧ Q ≤ P + E))
theorem div_bd {E P : Nat} (hE : 0 < E) : P / E * E ≤ P ∧ P < (P / E + 1) * E := by
  refine ⟨Nat.div_mul_le_self P E, ?_⟩
  rw [Nat.succ_mul]
  exact Nat.lt_div_mul_add hE
theorem suf_step {E k P Q : Nat} (hE : 0 < E) (h : Suf E k P Q) (hlt : P < Q) : ∃ k', k = k' + 1 ∧ Suf E k' (min Q ((P / E + 1) * E)) Q := by
  have hd := div_bd (P := P) hE
  obtain ⟨h1, h2 | h2 | h2⟩ := h
  · omega
  · refine ⟨0, h2.1, by omega, Or.inl ⟨rfl, by omega⟩⟩
  · refine ⟨1, h2.1, by omega, Or.inr (Or.inl ⟨rfl, ?_⟩)⟩
    rcases Nat.lt_or_ge ((P / E + 1) * E) Q with c | c
    · rw [Nat.min_eq_right (by omega), Nat.mul_div_cancel _ hE, Nat.succ_mul]
      omega
    · rw [Nat.min_eq_left c]
      exact Nat.le_of_lt (div_bd hE).2
theorem suf_pos {E k P Q : Nat} (h : Suf E k P Q) (hlt : P < Q) : 0 < E := by
  rcases Nat.eq_zero_or_pos E with e | e
  · subst e
    obtain ⟨_, h2 | h2 | h2⟩ := h
    · omega
    · rw [Nat.mul_zero] at h2; omega
    · omega
  · exact e
theorem div_is {E P at' now : Nat} (hE : 0 < E) (hP : P = at' * E + now) (hn : now < E) : P / E = at' := by
  rw [hP, Nat.add_comm, Nat.add_mul_div_right _ _ hE, Nat.div_eq_of_lt hn, Nat.zero_add]
/-- The next part, as machine by machine. -/
theorem seg_next {E j r at' now P Q to : Nat} (hE : 0 < E) (hP : P = at' * E + now) (hn : now < E) (hlt : P < Q) (hto : to = min E (now + (Q - P))) : seg E j (r + 1) P Q = ⟨at', j, (now : Int), (to : Int)⟩ :: seg E j r (at' * E + to) Q := by
  have hd := div_is hE hP hn
  have e : min Q ((at' + 1) * E) = at' * E + to := by rw [Nat.succ_mul]; omega
  rw [seg_step hlt, hd, e, show P - at' * E = now by omega, show at' * E + to - at' * E = to by omega]
theorem suf_next {E k at' now P Q to : Nat} (hE : 0 < E) (hP : P = at' * E + now) (hn : now < E) (hlt : P < Q) (hto : to = min E (now + (Q - P))) (h : Suf E k P Q) : ∃ k', k = k' + 1 ∧ Suf E k' (at' * E + to) Q := by
  have hd := div_is hE hP hn
  have e : min Q ((at' + 1) * E) = at' * E + to := by rw [Nat.succ_mul]; omega
  obtain ⟨k', h1, h2⟩ := suf_step hE h hlt
  rw [hd, e] at h2
  exact ⟨k', h1, h2⟩
theorem seg_len (E j : Nat) : ∀ k P Q, (seg E j k P Q).length ≤ k
  | 0, _, _ => Nat.le_refl _
  | k + 1, P, Q => by
    by_cases c : P < Q
    · rw [seg_step c]; have := seg_len E j k (min Q ((P / E + 1) * E)) Q; simp only [List.length_cons]; omega
    · rw [show seg E j (k + 1) P Q = [] from if_neg c]; exact Nat.zero_le _
section
variable (E : Nat) (l : Nat → Nat)
def pre : Nat → Nat
  | 0 => 0
  | k + 1 => pre k + l k
def mcp : Nat → List Prt
  | 0 => []
  | k + 1 => mcp k ++ seg E k 2 (pre l k) (pre l (k + 1))
theorem mcp_len : ∀ k, (mcp E l k).length ≤ 2 * k
  | 0 => Nat.le_refl _
  | k + 1 => by
    have h1 := mcp_len k
    have h2 := seg_len E k 2 (pre l k) (pre l (k + 1))
    show (mcp E l k ++ seg E k 2 (pre l k) (pre l (k + 1))).length ≤ _
    rw [List.length_append]
    omega
/-- A part on the long line. -/
def gl (p : Prt) : Int := (p.c : Int) * E + p.a
def hl (p : Prt) : Int := (p.c : Int) * E + p.b
structure On (j P Q : Nat) (p : Prt) : Prop where
  jj : p.j = j
  a0 : 0 ≤ p.a
  ab : p.a ≤ p.b
  bE : p.b ≤ E
  lo : (P : Int) ≤ gl E p
  hi : hl E p ≤ Q
  lt : gl E p < Q
theorem seg_on {j : Nat} (hE : 0 < E) : ∀ (k P Q : Nat), ∀ p ∈ seg E j k P Q, On E j P Q p
  | 0, _, _, p, h => absurd h (List.not_mem_nil)
  | k + 1, P, Q, p, h => by
    by_cases c : P < Q
    · rw [seg_step c] at h
      have hd := div_bd (P := P) hE
      rcases List.mem_cons.1 h with e | e
      · subst e
        have h1 : min Q ((P / E + 1) * E) - P / E * E ≤ E := by rw [Nat.succ_mul] at *; omega
        have h2 : P / E * E ≤ min Q ((P / E + 1) * E) := by rw [Nat.succ_mul] at *; omega
        have ez : ((P / E : Nat) : Int) * (E : Int) = ((P / E * E : Nat) : Int) := by simp
        refine ⟨rfl, by simp only; omega, by simp only; omega, by simp only; omega, ?_, ?_, ?_⟩
        · unfold gl; simp only; rw [ez]; omega
        · unfold hl; simp only; rw [ez]; omega
        · unfold gl; simp only; rw [ez]; omega
      · have h1 := seg_on hE k _ Q p e
        refine ⟨h1.jj, h1.a0, h1.ab, h1.bE, ?_, h1.hi, h1.lt⟩
        have := h1.lo
        omega
    · rw [show seg E j (k + 1) P Q = [] from if_neg c] at h
      exact absurd h (List.not_mem_nil)
theorem seg_line {j : Nat} (hE : 0 < E) : ∀ (k P Q : Nat), (seg E j k P Q).Pairwise (fun y x => hl E y ≤ gl E x)
  | 0, _, _ => List.Pairwise.nil
  | k + 1, P, Q => by
    by_cases c : P < Q
    · rw [seg_step c]
      refine List.pairwise_cons.2 ⟨fun p hp => ?_, seg_line hE k _ Q⟩
      have h1 := (seg_on E hE k _ Q p hp).lo
      have hd := div_bd (P := P) hE
      have h2 : P / E * E ≤ min Q ((P / E + 1) * E) := by rw [Nat.succ_mul] at *; omega
      have ez : ((P / E : Nat) : Int) * (E : Int) = ((P / E * E : Nat) : Int) := by simp
      unfold hl
      simp only
      rw [ez]
      omega
    · rw [show seg E j (k + 1) P Q = [] from if_neg c]; exact List.Pairwise.nil
theorem seg_sum {j : Nat} (hE : 0 < E) : ∀ (k P Q : Nat), Suf E k P Q → jsum j (seg E j k P Q) = (Q : Int) - P
  | 0, P, Q, h => by
    obtain ⟨_, h2 | h2 | h2⟩ := h
    · show (0 : Int) = _; omega
    · omega
    · omega
  | k + 1, P, Q, h => by
    by_cases c : P < Q
    · obtain ⟨k', e, h'⟩ := suf_step hE h c
      obtain rfl : k = k' := by omega
      rw [seg_step c]
      show (if j = j then _ else _) + jsum j (seg E j k _ Q) = _
      rw [seg_sum hE k _ Q h', if_pos rfl]
      simp only
      have hd := div_bd (P := P) hE
      have h2 : P / E * E ≤ min Q ((P / E + 1) * E) := by rw [Nat.succ_mul] at *; omega
      omega
    · have := h.1
      rw [show seg E j (k + 1) P Q = [] from if_neg c]
      show (0 : Int) = _
      omega
theorem seg_other {i j : Nat} (hE : 0 < E) (hij : i ≠ j) (k P Q : Nat) : jsum i (seg E j k P Q) = 0 := by
  have key : ∀ ps : List Prt, (∀ p ∈ ps, p.j = j) → jsum i ps = 0 := fun ps => by
    induction ps with
    | nil => intro _; rfl
    | cons p ps ih =>
      intro h
      show (if p.j = i then _ else _) + jsum i ps = 0
      rw [ih (fun q hq => h q (List.mem_cons_of_mem _ hq)), if_neg (by rw [h p (List.mem_cons_self ..)]; omega)]
      rfl
  exact key _ (fun p hp => (seg_on E hE k P Q p hp).jj)
theorem pre_le : ∀ {i k : Nat}, i ≤ k → pre l i ≤ pre l k
  | i, 0, h => by rw [show i = 0 by omega]; exact Nat.le_refl _
  | i, k + 1, h => by
    by_cases c : i = k + 1
    · rw [c]; exact Nat.le_refl _
    · have := pre_le (i := i) (k := k) (by omega)
      show pre l i ≤ pre l k + l k
      omega
theorem mcp_on (hE : 0 < E) : ∀ k, ∀ p ∈ mcp E l k, p.j < k ∧ On E p.j (pre l p.j) (pre l (p.j + 1)) p
  | 0, p, h => absurd h (List.not_mem_nil)
  | k + 1, p, h => by
    rcases List.mem_append.1 h with e | e
    · have := mcp_on hE k p e
      exact ⟨by omega, this.2⟩
    · have := seg_on E hE 2 _ _ p e
      have hj := this.jj
      rw [hj]
      exact ⟨by omega, this⟩
theorem mcp_line (hE : 0 < E) : ∀ k, (mcp E l k).Pairwise (fun y x => hl E y ≤ gl E x)
  | 0 => List.Pairwise.nil
  | k + 1 => by
    refine List.pairwise_append.2 ⟨mcp_line hE k, seg_line E hE _ _ _, fun y hy x hx => ?_⟩
    have h1 := mcp_on E l hE k y hy
    have h2 := (seg_on E hE 2 _ _ x hx).lo
    have h3 := h1.2.hi
    have h4 := pre_le l (i := y.j + 1) (k := k) (by omega)
    omega
theorem suf_two {P q : Nat} (h : q ≤ E) : Suf E 2 P (P + q) := ⟨by omega, Or.inr (Or.inr ⟨rfl, by omega⟩)⟩
/-- McNaughton's parts may be carried out. -/
theorem fits_mcp {n m : Nat} (hE : 0 < E) (hl' : ∀ i, i < n → l i ≤ E) (hm : pre l n ≤ m * E) : Fits n m (fun i => (l i : Int)) E (mcp E l n) := by
  refine ⟨fun p h => ?_, ?_, fun j hj => ?_⟩
  · have h1 := mcp_on E l hE n p h
    have h2 := pre_le l (i := p.j + 1) (k := n) (by omega)
    have h3 := h1.2.lt
    have h4 := h1.2.a0
    refine ⟨?_, h1.1, h1.2.a0, h1.2.ab, h1.2.bE⟩
    unfold gl at h3
    have h5 : (p.c : Int) * E < m * E := by
      have : ((m * E : Nat) : Int) = (m : Int) * E := by simp
      omega
    have := Int.lt_of_mul_lt_mul_right h5 (by omega)
    omega
  · have h1 := mcp_line E l hE n
    have h2 : ∀ p ∈ mcp E l n, On E p.j (pre l p.j) (pre l (p.j + 1)) p ∧ p.j < n := fun p hp => ⟨(mcp_on E l hE n p hp).2, (mcp_on E l hE n p hp).1⟩
    refine h1.imp_of_mem fun {y x} hy hx hyx => ?_
    rintro ⟨h5, h6, h7⟩
    have oy := (h2 y hy).1
    have ox := (h2 x hx).1
    unfold hl gl at hyx
    by_cases hc : y.c = x.c
    · rw [hc] at hyx; omega
    · have hj : y.j = x.j := by rcases h5 with h5 | h5; exact absurd h5 hc; exact h5
      have hP := oy.lo
      have hQ := ox.hi
      rw [← hj] at hQ
      have hle := hl' y.j (h2 y hy).2
      have e : pre l (y.j + 1) = pre l y.j + l y.j := rfl
      rw [e] at hQ
      unfold gl at hP
      unfold hl at hQ
      have ha := ox.a0
      have hbE := oy.bE
      have hab := oy.ab
      have hya := oy.a0
      have hxb := ox.ab
      -- y's machine is ahead of x's
      have hlt : y.c < x.c := by
        rcases Nat.lt_or_ge y.c x.c with c | c
        · exact c
        · have c' : x.c + 1 ≤ y.c := by omega
          have : ((x.c : Int) + 1) * E ≤ (y.c : Int) * E := Int.mul_le_mul_of_nonneg_right (by omega) (by omega)
          rw [Int.add_mul] at this
          have := ox.bE
          omega
      have h9 : ((y.c : Int) + 1) * E ≤ (x.c : Int) * E := Int.mul_le_mul_of_nonneg_right (by omega) (by omega)
      rw [Int.add_mul] at h9
      omega
  · have key : ∀ k, k ≤ n → jsum j (mcp E l k) = if j < k then (l j : Int) else 0 := fun k => by
      induction k with
      | zero => intro _; rw [if_neg (by omega)]; rfl
      | succ k ih =>
        intro hk
        show jsum j (mcp E l k ++ seg E k 2 (pre l k) (pre l k + l k)) = _
        rw [jsum_append, ih (by omega)]
        by_cases c : j = k
        · subst c
          rw [if_neg (by omega), if_pos (by omega), seg_sum E hE 2 _ _ (suf_two E (hl' j hj))]
          omega
        · rw [seg_other E hE c]
          by_cases c2 : j < k
          · rw [if_pos c2, if_pos (by omega)]; omega
          · rw [if_neg c2, if_neg (by omega)]; rfl
    rw [key n (Nat.le_refl _), if_pos hj]
/-- Where nothing lasts there are no parts. -/
theorem mcp_none : ∀ k, (∀ i, i < k → l i = 0) → mcp E l k = []
  | 0, _ => rfl
  | k + 1, h => by
    show mcp E l k ++ seg E k 2 (pre l k) (pre l k + l k) = []
    rw [mcp_none k (fun i hi => h i (by omega)), h k (by omega), Nat.add_zero, seg_done]
    rfl
end
end Go.Proofs.YtepgdlgifempeaaDoor.Shp
