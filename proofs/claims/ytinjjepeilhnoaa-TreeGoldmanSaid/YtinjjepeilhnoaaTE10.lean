/- Goldman's law: the walk. -/
import Derived.Test.YtinjjepeilhnoaaTE7
import Derived.Test.YtinjjepeilhnoaaTE9
namespace Go.Proofs.Ytinjjepeilhnoaa
open Go.RowKit Go.Sort Go.Shelf

def frb (f : Nat → T3) : Nat → Bool
  | 0 => true
  | k + 1 => frb f k && decide (0 < (f k).2.2)
theorem frb_all {f : Nat → T3} : ∀ {k : Nat}, frb f k = true → ∀ i, i < k → 0 < eL f i
  | 0, _, i, hi => absurd hi (Nat.not_lt_zero _)
  | k + 1, h, i, hi => by
    have h' : (frb f k && decide (0 < (f k).2.2)) = true := h
    rw [Bool.and_eq_true, decide_eq_true_eq] at h'
    by_cases c : i = k
    · subst c; exact h'.2
    · exact frb_all h'.1 i (by omega)
def hfb (l : List Int) (al : Int) : Nat → Bool
  | 0 => true
  | k + 1 => hfb l al k && decide (2 * l[k]! ≤ al)
theorem hfb_iff {l : List Int} {al : Int} : ∀ k, hfb l al k = true ↔ ∀ j, j < k → 2 * l[j]! ≤ al
  | 0 => ⟨fun _ j hj => absurd hj (Nat.not_lt_zero _), fun _ => rfl⟩
  | k + 1 => by
    show (hfb l al k && decide (2 * l[k]! ≤ al)) = true ↔ _
    rw [Bool.and_eq_true, decide_eq_true_eq, hfb_iff k]
    refine ⟨fun ⟨h1, h2⟩ j hj => ?_, fun h => ⟨fun j hj => h j (by omega), h k (by omega)⟩⟩
    by_cases c : j = k
    · rw [c]; exact h2
    · exact h1 j (by omega)
theorem ps_bd {n : Nat} {s : Nat → Nat → Bool} {P : Nat → Int} (hP : GoodP n P) (hn : n ≤ 60) (e w : Nat) : 0 ≤ Tre.Ps n s P e w ∧ Tre.Ps n s P e w ≤ 600000 := by
  have h1 : 0 ≤ Tre.Ps n s P e w := Tre.sm_nonneg n (fun i hi => by
    show 0 ≤ (if s e i = s e w then 0 else P i)
    have := hP i hi
    split <;> omega)
  have h2 : Tre.Ps n s P e w ≤ 10000 * n := Tre.sm_bd n (fun i hi => by
    show (if s e i = s e w then 0 else P i) ≤ 10000
    have := hP i hi
    split <;> omega)
  omega
theorem brs_mem {n m p : Nat} {f : Nat → T3} {s : Nat → Nat → Bool} {P : Nat → Int} (H : GoodE n m f) (hp : p < n) : ∀ k, k ≤ m → ∀ x, x ∈ brs n f s P p k ↔ ∃ e y, e < k ∧ Tre.Inc (eA f) (eB f) e p y ∧ x = Tre.Ps n s P e p
  | 0, _, x => ⟨fun h => absurd h (by show x ∉ []; simp), fun ⟨e, y, h, _⟩ => absurd h (Nat.not_lt_zero _)⟩
  | k + 1, hk, x => by
    have ih := brs_mem (s := s) (P := P) H hp k (by omega) x
    show x ∈ (if (oth (f k) (p : Int)).2 then brs n f s P p k ++ [Tre.Ps n s P k p] else brs n f s P p k) ↔ _
    rcases oth_inc H (show k < m by omega) hp with ⟨y, hy, ho, hinc, hun⟩ | ⟨ho, hno⟩
    · rw [ho, if_pos rfl, List.mem_append, ih, List.mem_singleton]
      constructor
      · rintro (⟨e, z, h1, h2, h3⟩ | h)
        · exact ⟨e, z, by omega, h2, h3⟩
        · exact ⟨k, y, Nat.lt_succ_self k, hinc, h⟩
      · rintro ⟨e, z, h1, h2, h3⟩
        by_cases c : e = k
        · subst c; exact Or.inr h3
        · exact Or.inl ⟨e, z, by omega, h2, h3⟩
    · rw [ho, if_neg (by decide), ih]
      constructor
      · rintro ⟨e, z, h1, h2, h3⟩; exact ⟨e, z, by omega, h2, h3⟩
      · rintro ⟨e, z, h1, h2, h3⟩
        by_cases c : e = k
        · subst c; exact absurd h2 (hno z)
        · exact ⟨e, z, by omega, h2, h3⟩
theorem mem_get {l : List Int} {x : Int} : x ∈ l ↔ ∃ j, j < l.length ∧ l[j]! = x := by
  constructor
  · intro h
    obtain ⟨j, hj, e⟩ := List.getElem_of_mem h
    exact ⟨j, hj, by simp [hj, e]⟩
  · rintro ⟨j, hj, e⟩
    have : l[j]! = l[j] := by simp [hj]
    rw [← e, this]
    exact List.getElem_mem hj
/-- Goldman: half is whether it is the least. -/
theorem goldman_law {n m p : Nat} {f : Nat → T3} {s : Nat → Nat → Bool} {P : Nat → Int} (H : GTree n m f s) (hP : GoodP n P) (hp : p < n) (hf : frb f m = true) :
    hfb (brs n f s P p m) (Tre.sm P n) (brs n f s P p m).length = (sumT n m f s P p == (lst (sumT n m f s P) (n - 1)).2) := by
  have hL := frb_all hf
  have hn := H.one
  have h1 := lst_at (sumT n m f s P) (n - 1)
  have h2 := lst_min (sumT n m f s P) (n - 1)
  have hhalf : hfb (brs n f s P p m) (Tre.sm P n) (brs n f s P p m).length = true ↔ ∀ e x, e < m → Tre.Inc (eA f) (eB f) e p x → 2 * Tre.Ps n s P e p ≤ Tre.sm P n := by
    rw [hfb_iff]
    constructor
    · intro h e x he hi
      obtain ⟨j, hj, e1⟩ := mem_get.1 ((brs_mem (s := s) (P := P) H.good hp m (Nat.le_refl _) _).2 ⟨e, x, he, hi, rfl⟩)
      have := h j hj
      rw [e1] at this
      exact this
    · intro h j hj
      obtain ⟨e, y, he, hi, e1⟩ := (brs_mem (s := s) (P := P) H.good hp m (Nat.le_refl _) _).1 (mem_get.2 ⟨j, hj, rfl⟩)
      rw [e1]; exact h e y he hi
  have key : hfb (brs n f s P p m) (Tre.sm P n) (brs n f s P p m).length = true ↔ sumT n m f s P p = (lst (sumT n m f s P) (n - 1)).2 := by
    rw [hhalf]
    constructor
    · intro h
      have h3 := Tre.goldman_min (p := P) H.tr (fun i hi => Int.le_of_lt (hL i hi)) (fun v hv => (hP v hv).1) hp h (lst (sumT n m f s P) (n - 1)).1
      have h4 := h2 p (by omega)
      rw [h1.2] at h4 ⊢
      exact Int.le_antisymm h3 h4
    · intro h e x he hi
      refine Tre.goldman_half (p := P) H.tr hL (fun x hx => ?_) he hi
      have h4 := h2 x (by omega)
      rw [← h] at h4
      exact h4
  cases hh : hfb (brs n f s P p m) (Tre.sm P n) (brs n f s P p m).length with
  | true => rw [beq_iff_eq.2 (key.1 hh)]
  | false =>
    rw [eq_comm, beq_eq_false_iff_ne]
    intro e
    rw [key.2 e] at hh; cases hh

set_option maxHeartbeats 16000000 in
set_option maxRecDepth 100000 in
theorem treeGoldman_any (N : Int) (a : Option Addr) (m c : Nat) (f : Nat → T3) (pa : Option Addr) (pn pc : Nat) (P : Nat → Int) (wh : Int) (w : World) (hN : I64 N) (ha : TRow w a m c f) (hp : IRow w pa pn pc P) :
    Calls Try.prog 3 #[.int .i64 N, .slice a m c, .slice pa pn pc, .int .i64 wh] w fun e w' => e = .returned (.bool true) ∧ Below w.heap.size w w' := by
  have q1 := ha.1
  have q2 := ha.2.1
  have q3 := hp.1
  have q4 := hp.2.1
  by_cases hm : 25 < m
  · have e0 : (25 : Int) < (m : Int) := by omega
    clear ha hp
    go_enter Try.func3, Try.ntmps3
    go_wp2
    go_ret
    exact ⟨rfl, Below.refl _ _⟩
  by_cases hpn : 30 < pn
  · have e0 : ¬ (25 : Int) < (m : Int) := by omega
    have e1 : (30 : Int) < (pn : Int) := by omega
    clear ha hp
    go_enter Try.func3, Try.ntmps3
    go_wp2
    go_ret
    exact ⟨rfl, Below.refl _ _⟩
  have e0 : ¬ (25 : Int) < (m : Int) := by omega
  have e1 : ¬ (30 : Int) < (pn : Int) := by omega
  obtain ⟨cu, hcu⟩ := cu_some N.toNat m f
  obtain ⟨s, hs⟩ := cuts_some hcu
  have HA := hide ha
  have HP := hide hp
  have HCU := hide hcu
  have HS := hide hs
  have HM := hide (Middle_any N a m c f pa pn pc P cu s w hN hcu hs ha hp (by omega))
  clear ha hp hcu hs
  go_enter Try.func3, Try.ntmps3
  go_wp2_with fail
  refine (unhide HM).mono ?_
  rintro e w1 ⟨hb1, hmid⟩
  have HG1 := hide (grown_any w1)
  have HB := hide hb1
  clear hb1 HM
  rcases hmid with ⟨hk, rfl⟩ | ⟨hk, rfl⟩
  · obtain ⟨k, hk2⟩ : ∃ k, pcode N m f cu pn P = k := ⟨_, rfl⟩
    rw [hk2]
    clear hk hk2
    go_wp2_with fail
    refine (unhide HG1).mono ?_
    rintro e w2 ⟨rfl, hb2⟩
    have HG2 := hide (grown_any w2)
    have HB2 := hide (below_step (unhide HB) hb2)
    clear hb2 HG1
    go_wp2_with fail
    refine (unhide HG2).mono ?_
    rintro e w3 ⟨rfl, hb3⟩
    have HB3 := hide (below_step (unhide HB2) hb3)
    clear hb3 HG2
    go_wp2
    go_ret
    exact ⟨rfl, unhide HB3⟩
  obtain ⟨h4, h5, h6⟩ := pcode_zero hk
  obtain rfl : N = (pn : Int) := h5.symm
  have hT : GTree pn m f s := unhide HS h4
  have HT := hide hT
  have HGP := hide h6
  have h60 := hT.few
  have h01 := hT.one
  have HPK := hide (fun x => pick_any wh pn h01 (by omega) x)
  obtain ⟨V, hV⟩ : ∃ V : Nat → Int, sumT pn m f s P = V := ⟨_, rfl⟩
  obtain ⟨⟨k0, mn⟩, hlm⟩ : ∃ t, lst V (pn - 1) = t := ⟨_, rfl⟩
  have HLM : Hid (∀ i, i < pn → mn ≤ V i) := fun i hi => by
    have := lst_min V (pn - 1) i (by omega)
    rw [hlm] at this
    exact this
  have HLAW : Hid (∀ p, p < pn → frb f m = true → hfb (brs pn f s P p m) (Tre.sm P pn) (brs pn f s P p m).length = (V p == mn)) := fun p hp2 hf => by
    have := goldman_law hT h6 hp2 hf
    rw [hV, hlm] at this
    exact this
  have HAC : Hid (∀ p : Nat, p < pn → acode (pn : Int) m f cu pn P (p : Int) = 0) := fun p hp2 => by
    unfold acode
    rw [if_neg (by simpa using hk), if_neg (by omega)]
  have HSM : Hid (∀ (p : Nat) W, p < pn → Below w.heap.size w W → Calls Try.prog 12 #[.int .i64 (pn : Int), .slice a m c, .slice pa pn pc, .int .i64 (p : Int)] W fun e w' => e = .returned (.tuple #[.int .i64 (V p), .nilIface]) ∧ Below W.heap.size W w') := fun p W hp2 hW => by
    refine (Sum_any (pn : Int) a m c f pa pn pc P (p : Int) cu s W hN (unhide HCU) (unhide HS) ((unhide HA).below hW) ((unhide HP).below hW) (by omega)).mono ?_
    rintro e w' ⟨hb, hh⟩
    rcases hh with ⟨h, _⟩ | ⟨_, rfl⟩
    · exact absurd (unhide HAC p hp2) h
    · exact ⟨by rw [← hV]; rfl, hb⟩
  have HBR : Hid (∀ (p : Nat) W, p < pn → Below w.heap.size w W → Calls Try.prog 11 #[.int .i64 (pn : Int), .slice a m c, .slice pa pn pc, .int .i64 (p : Int)] W fun e w' => ∃ a2 n2 c2, e = .returned (.tuple #[.slice a2 n2 c2, .nilIface]) ∧ n2 = (brs pn f s P p m).length ∧ IRow w' a2 n2 c2 (fun j => (brs pn f s P p m)[j]!) ∧ Below W.heap.size W w') := fun p W hp2 hW => by
    refine (Branches_any (pn : Int) a m c f pa pn pc P (p : Int) cu s W hN (unhide HCU) (unhide HS) ((unhide HA).below hW) ((unhide HP).below hW) (by omega)).mono ?_
    rintro e w' ⟨hb, hh⟩
    rcases hh with ⟨h, _⟩ | ⟨_, v, rfl, hO⟩
    · exact absurd (unhide HAC p hp2) h
    · obtain ⟨a2, c2, rfl, hr⟩ := hO.irow
      exact ⟨a2, _, c2, rfl, rfl, hr, hb⟩
  rw [hV, hlm]
  simp only
  clear hk h4 h5 h6 hT hV hlm
  go_wp2_with fail
  refine (unhide HG1).mono ?_
  rintro e w2 ⟨rfl, hb2⟩
  have HB2 := hide (below_step (unhide HB) hb2)
  clear hb2 HG1 HB
  go_wp2_with fail
  refine (unhide HPK w2).mono ?_
  rintro e w3 ⟨p, rfl, hp, rfl⟩
  clear HPK
  go_wp2_with fail
  go_loopw [14, 12] (fun vi va wr => ∃ k : Nat, vi = .int .i64 (k : Int) ∧ k ≤ pn ∧ va = .int .i64 (Tre.sm P k) ∧ wr = w3) (fun vi _ _ => pn - (intOf vi).toNat)
  case atStart => exact ⟨0, rfl, Nat.zero_le _, rfl, rfl⟩
  case round =>
    obtain ⟨k, rfl, hk, rfl, rfl⟩ := hrel
    by_cases hlt : k < pn
    · obtain ⟨pb, po, rfl, hbl, hpc⟩ := ((unhide HP).below (unhide HB2)).2.2 (by omega)
      have c0 := hpc k hlt
      have bd1 := unhide HGP k hlt
      have bd2 : Tre.sm P k ≤ 10000 * k := Tre.sm_bd k (fun i hi => (unhide HGP i (by omega)).2)
      have bd3 : 0 ≤ Tre.sm P k := Tre.sm_nonneg k (fun i hi => (unhide HGP i (by omega)).1)
      have HSS : Hid (Tre.sm P (k + 1) = Tre.sm P k + P k) := rfl
      obtain ⟨y, hy⟩ : ∃ y, P k = y := ⟨_, rfl⟩
      obtain ⟨t, ht⟩ : ∃ t, Tre.sm P k = t := ⟨_, rfl⟩
      rw [hy] at c0 bd1 HSS
      rw [ht] at bd2 bd3 HSS ⊢
      have f1 : (0 : Int) ≤ (k : Int) := by omega
      have f2 : (k : Int) < (pn : Int) := by omega
      have f3 : IntKind.i64.wrap ((k : Int) + 1) = ((k + 1 : Nat) : Int) := by rw [IntKind.wrap_i64]; omega
      have f4 : IntKind.i64.wrap (t + y) = t + y := by rw [IntKind.wrap_i64]; omega
      clear hpc bd1 bd2 bd3 hy ht
      go_wp2
      exact ⟨⟨k + 1, rfl, hlt, by rw [unhide HSS], by first | rfl | trivial⟩, by simp [intOf]; omega⟩
    · obtain rfl : k = pn := by omega
      have f2 : ¬ (k : Int) < (k : Int) := by omega
      have bd2 : Tre.sm P k ≤ 10000 * k := Tre.sm_bd k (fun i hi => (unhide HGP i (by omega)).2)
      have bd3 : 0 ≤ Tre.sm P k := Tre.sm_nonneg k (fun i hi => (unhide HGP i (by omega)).1)
      obtain ⟨al, hal⟩ : ∃ t, Tre.sm P k = t := ⟨_, rfl⟩
      rw [hal] at HLAW bd2 bd3 ⊢
      clear hal
      go_wp2_with fail
      go_loopw [15, 13] (fun vi va w4 => ∃ j : Nat, vi = .int .i64 (j : Int) ∧ j ≤ m ∧ va = .bool (frb f j) ∧ w4 = wr) (fun vi _ _ => m - (intOf vi).toNat)
      case atStart => exact ⟨0, rfl, Nat.zero_le _, rfl, rfl⟩
      case round =>
        obtain ⟨j, rfl, hj, rfl, rfl⟩ := hrel
        by_cases hlt : j < m
        · obtain ⟨ab, ao, rfl, hbl, hac⟩ := ((unhide HA).below (unhide HB2)).2.2 (by omega)
          have ⟨_, _, c0⟩ := hac j hlt
          have HSS : Hid (frb f (j + 1) = (frb f j && decide (0 < (f j).2.2))) := rfl
          obtain ⟨y, hy⟩ : ∃ y, (f j).2.2 = y := ⟨_, rfl⟩
          rw [hy] at c0 HSS
          have f1 : (0 : Int) ≤ (j : Int) := by omega
          have f3 : (j : Int) < (m : Int) := by omega
          have f4 : IntKind.i64.wrap ((j : Int) + 1) = ((j + 1 : Nat) : Int) := by rw [IntKind.wrap_i64]; omega
          clear hac hy
          cases hfr : frb f j with
          | false =>
            have HSS2 : Hid (frb f (j + 1) = false) := by show _ = _; rw [unhide HSS, hfr]; rfl
            clear hfr HSS
            go_wp2
            exact ⟨⟨j + 1, rfl, hlt, by rw [unhide HSS2], by first | rfl | trivial⟩, by simp [intOf]; omega⟩
          | true =>
            have HSS2 : Hid (frb f (j + 1) = decide (0 < y)) := by show _ = _; rw [unhide HSS, hfr]; rfl
            clear hfr HSS
            by_cases hy0 : 0 < y
            · have HSS3 : Hid (frb f (j + 1) = true) := by show _ = _; rw [unhide HSS2]; exact decide_eq_true hy0
              go_wp2
              exact ⟨⟨j + 1, rfl, hlt, by rw [unhide HSS3], by first | rfl | trivial⟩, by simp [intOf]; omega⟩
            · have HSS3 : Hid (frb f (j + 1) = false) := by show _ = _; rw [unhide HSS2]; exact decide_eq_false hy0
              go_wp2
              exact ⟨⟨j + 1, rfl, hlt, by rw [unhide HSS3], by first | rfl | trivial⟩, by simp [intOf]; omega⟩
        · obtain rfl : j = m := by omega
          have f1 : ¬ (j : Int) < (j : Int) := by omega
          obtain ⟨fr0, hfr0⟩ : ∃ b, frb f j = b := ⟨_, rfl⟩
          rw [hfr0] at HLAW ⊢
          have HBR1 := hide (unhide HBR p wr hp (unhide HB2))
          clear hfr0 HBR
          go_wp2_with fail
          refine (unhide HBR1).mono ?_
          rintro e w5 ⟨a2, n2, c2, rfl, hn2, hrow, hb5⟩
          have HB5 := hide (below_step (unhide HB2) hb5)
          have HSM1 := hide (unhide HSM p w5 hp (unhide HB5))
          have HROW := hide hrow
          have HN2 := hide hn2
          have q5 := hrow.1
          have q6 := hrow.2.1
          have hn2m : n2 ≤ 25 := by have := brs_len k f s P p j; omega
          clear hrow hn2 hb5 HBR1
          go_wp2_with fail
          refine (unhide HSM1).mono ?_
          rintro e w6 ⟨rfl, hb6⟩
          have HR6 := hide ((unhide HROW).below hb6)
          have HB6 := hide (below_step (unhide HB5) hb6)
          have hle := unhide HLM p hp
          have HLP := hide (unhide HLAW p hp)
          have HBD : Hid (∀ q, q < n2 → 0 ≤ (brs k f s P p j)[q]! ∧ (brs k f s P p j)[q]! ≤ 600000) := fun q hq => by
            have hq' : q < (brs k f s P p j).length := by rw [← unhide HN2]; exact hq
            obtain ⟨e, y, he, hi, e1⟩ := (brs_mem (s := s) (P := P) (unhide HT).good hp j (Nat.le_refl _) _).1 (mem_get.2 ⟨q, hq', rfl⟩)
            rw [e1]
            exact ps_bd (unhide HGP) h60 e p
          obtain ⟨vp, hvp⟩ : ∃ v, V p = v := ⟨_, rfl⟩
          rw [hvp] at hle HLP ⊢
          obtain ⟨l, hl⟩ : ∃ l, brs k f s P p j = l := ⟨_, rfl⟩
          rw [hl] at HR6 HBD HLP HN2
          have hnlt : ¬ vp < mn := by omega
          clear hb6 HSM1 HSM HROW HLAW HLM hvp hl hle
          go_wp2_with fail
          go_loopw [21, 20] (fun vi va w7 => ∃ q : Nat, vi = .int .i64 (q : Int) ∧ q ≤ n2 ∧ va = .bool (hfb l al q) ∧ w7 = w6) (fun vi _ _ => n2 - (intOf vi).toNat)
          case atStart => exact ⟨0, rfl, Nat.zero_le _, rfl, rfl⟩
          case round =>
            obtain ⟨q, rfl, hq, rfl, rfl⟩ := hrel
            by_cases hlt : q < n2
            · obtain ⟨lb, lo, rfl, hbl, hlc⟩ := (unhide HR6).2.2 (by omega)
              have c0 : wr.cell? ⟨lb, lo + q, none⟩ = some (.int .i64 l[q]!) := hlc q hlt
              have bd := unhide HBD q hlt
              have HSS : Hid (hfb l al (q + 1) = (hfb l al q && decide (2 * l[q]! ≤ al))) := rfl
              obtain ⟨y, hy⟩ : ∃ y, l[q]! = y := ⟨_, rfl⟩
              rw [hy] at c0 HSS bd
              have f1 : (0 : Int) ≤ (q : Int) := by omega
              have f3 : (q : Int) < (n2 : Int) := by omega
              have f4 : IntKind.i64.wrap ((q : Int) + 1) = ((q + 1 : Nat) : Int) := by rw [IntKind.wrap_i64]; omega
              have f5 : IntKind.i64.wrap (2 * y) = 2 * y := by rw [IntKind.wrap_i64]; omega
              clear hlc hy
              cases hfr : hfb l al q with
              | false =>
                have HSS2 : Hid (hfb l al (q + 1) = false) := by show _ = _; rw [unhide HSS, hfr]; rfl
                clear hfr HSS bd
                go_wp2
                exact ⟨⟨q + 1, rfl, hlt, by rw [unhide HSS2], by first | rfl | trivial⟩, by simp [intOf]; omega⟩
              | true =>
                have HSS2 : Hid (hfb l al (q + 1) = decide (2 * y ≤ al)) := by show _ = _; rw [unhide HSS, hfr]; rfl
                clear hfr HSS bd
                by_cases hy0 : 2 * y ≤ al
                · have HSS3 : Hid (hfb l al (q + 1) = true) := by show _ = _; rw [unhide HSS2]; exact decide_eq_true hy0
                  go_wp2
                  exact ⟨⟨q + 1, rfl, hlt, by rw [unhide HSS3], by first | rfl | trivial⟩, by simp [intOf]; omega⟩
                · have HSS3 : Hid (hfb l al (q + 1) = false) := by show _ = _; rw [unhide HSS2]; exact decide_eq_false hy0
                  go_wp2
                  exact ⟨⟨q + 1, rfl, hlt, by rw [unhide HSS3], by first | rfl | trivial⟩, by simp [intOf]; omega⟩
            · obtain rfl : q = n2 := by omega
              have f1 : ¬ (q : Int) < (q : Int) := by omega
              have hlaw := unhide HLP
              rw [← unhide HN2] at hlaw
              obtain ⟨hv, hhv⟩ : ∃ b, hfb l al q = b := ⟨_, rfl⟩
              rw [hhv] at hlaw ⊢
              clear hhv HLP HBD HR6
              cases fr0 with
              | false =>
                clear hlaw
                go_wp2
                go_ret
                exact ⟨rfl, unhide HB6⟩
              | true =>
                have hh := hlaw rfl
                have HH := hide hh
                clear hlaw hh
                obtain ⟨tv, htv⟩ : ∃ b, (vp == mn) = b := ⟨_, rfl⟩
                have hht : hv = tv := (unhide HH).trans htv
                subst hht
                have hself : (hv == hv) = true := by cases hv <;> rfl
                go_wp2
                go_ret
                exact ⟨rfl, unhide HB6⟩
end Go.Proofs.Ytinjjepeilhnoaa
