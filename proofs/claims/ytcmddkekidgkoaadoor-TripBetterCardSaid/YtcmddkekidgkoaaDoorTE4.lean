/- Trees of the program: Far, sum, joined. -/
import Derived.Test.YtcmddkekidgkoaaDoorTE3
namespace Go.Proofs.YtcmddkekidgkoaaDoor
open Go.RowKit Go.Sort Go.Shelf

def dist (m : Nat) (f : Nat → T3) (s : Nat → Nat → Bool) (u v : Nat) : Int := Tre.D m (eL f) s u v
theorem dist_bd {n m : Nat} {f : Nat → T3} {s : Nat → Nat → Bool} (H : GTree n m f s) (u v : Nat) : 0 ≤ dist m f s u v ∧ dist m f s u v ≤ 60000000000 := by
  have h1 := Tre.D_nonneg (m := m) (L := eL f) H.good.lpos s u v
  have h2 := Tre.D_le (m := m) (L := eL f) (M := 1000000000) (fun i hi => H.good.l i hi) s u v
  have h3 := H.few
  have h4 := H.mn
  unfold dist
  omega
def FarT (w : World) (n m : Nat) (f : Nat → T3) (s : Nat → Nat → Bool) (p : Nat) (e : Ending) (w' : World) : Prop := ∃ G : Nat, w.heap.size ≤ G ∧ e = .returned (.slice (some ⟨G, 0, none⟩) n n) ∧ OwnI w' G n (dist m f s p) ∧ Below w.heap.size w w'
theorem farT_any (n : Nat) (a : Option Addr) (m c : Nat) (f : Nat → T3) (s : Nat → Nat → Bool) (p : Nat) (w : World) (ha : TRow w a m c f) (H : GTree n m f s) (hp : p < n) :
    Calls Tryd.prog 49 #[.int .i64 (n : Int), .slice a m c, .int .i64 (p : Int)] w (FarT w n m f s p) := by
  have h1 := H.few
  have h2 := H.mn
  refine (far_any n a m c f p w ha H.one h1 (by omega) hp H.good).mono ?_
  rintro e w' ⟨G, out, hG, rfl, hO, hr, he, hb⟩
  exact ⟨G, hG, rfl, hO.congr (fun j hj => Tre.search_far H.tr H.good.lpos hp hr he j hj), hb⟩

/-- What Far leaves. -/
def fcode (N : Int) (m : Nat) (f : Nat → T3) (cu : Bool) (at_ : Int) : Int := if kcode N m f cu ≠ 0 then kcode N m f cu else if at_ < 0 ∨ N ≤ at_ then 2 else 0
theorem fcode_zero {N at_ : Int} {m : Nat} {f : Nat → T3} {cu : Bool} (h : fcode N m f cu at_ = 0) : kcode N m f cu = 0 ∧ 0 ≤ at_ ∧ at_ < N := by
  unfold fcode at h
  by_cases c : kcode N m f cu = 0
  · rw [if_neg (by simpa using c)] at h
    by_cases c2 : at_ < 0 ∨ N ≤ at_
    · rw [if_pos c2] at h; exact absurd h (by decide)
    · exact ⟨c, by omega, by omega⟩
  · rw [if_pos c] at h; exact absurd h c
def FarE (w : World) (N : Int) (m : Nat) (f : Nat → T3) (cu : Bool) (at_ : Int) (e : Ending) (w' : World) : Prop :=
  Below w.heap.size w w' ∧ ((fcode N m f cu at_ ≠ 0 ∧ e = .returned (.tuple #[.slice none 0 0, .iface 25 (.int .i64 (fcode N m f cu at_))])) ∨ (fcode N m f cu at_ = 0 ∧ ∀ (n p : Nat) (s : Nat → Nat → Bool), N = n → at_ = p → GTree n m f s → ∃ G, w.heap.size ≤ G ∧ e = .returned (.tuple #[.slice (some ⟨G, 0, none⟩) n n, .nilIface]) ∧ OwnI w' G n (dist m f s p)))

set_option maxHeartbeats 4000000 in
set_option maxRecDepth 100000 in
theorem Far_any (N : Int) (a : Option Addr) (m c : Nat) (f : Nat → T3) (at_ : Int) (cu : Bool) (w : World) (hN : I64 N) (hcu : Cu N.toNat m f cu) (ha : TRow w a m c f) :
    Calls Tryd.prog 17 #[.int .i64 N, .slice a m c, .int .i64 at_] w (FarE w N m f cu at_) := by
  have HA := hide ha
  have HC := hide (tcheck_any N a m c f cu w hN hcu ha)
  have q1 := ha.1
  have q2 := ha.2.1
  clear ha
  by_cases hk : kcode N m f cu = 0
  case neg =>
    rw [errV_not hk] at HC
    have HE : Hid (fcode N m f cu at_ = kcode N m f cu) := if_pos hk
    obtain ⟨k, hk2⟩ : ∃ k, kcode N m f cu = k := ⟨_, rfl⟩
    rw [hk2] at HC HE hk
    have HK := hide hk
    clear hk hk2 hcu
    go_enter Tryd.func17, Tryd.ntmps17
    go_wp2_with fail
    refine (unhide HC).mono ?_
    rintro e w1 ⟨rfl, hb1⟩
    go_wp2
    go_ret2
    refine ⟨hb1, Or.inl ?_⟩
    rw [unhide HE]
    exact ⟨unhide HK, rfl⟩
  rw [hk, errV_zero] at HC
  obtain ⟨n, s0, rfl, hT⟩ := kcode_zero hcu hk
  have HT := hide hT
  have h1 := hT.few
  have h0 := hT.one
  have n3 : IntKind.i64.wrap ((n : Int) - 1) = (n : Int) - 1 := by rw [IntKind.wrap_i64]; omega
  have CW : Hid (∀ W, Calls Tryd.prog 47 #[.int .i64 at_, .int .i64 ((n : Int) - 1)] W fun e w' => e = .returned (.bool (decide (0 ≤ at_ ∧ at_ ≤ (n : Int) - 1))) ∧ w' = W) := fun W => twithin_any at_ ((n : Int) - 1) W
  by_cases ha2 : 0 ≤ at_ ∧ at_ ≤ (n : Int) - 1
  case neg =>
    rw [decide_eq_false ha2] at CW
    have HE : Hid (fcode (n : Int) m f cu at_ = 2) := by show fcode (n : Int) m f cu at_ = 2; unfold fcode; rw [if_neg (by simpa using hk), if_pos (by omega)]
    clear ha2 hk hcu hT
    go_enter Tryd.func17, Tryd.ntmps17
    go_wp2_with fail
    refine (unhide HC).mono ?_
    rintro e w1 ⟨rfl, hb1⟩
    have HB := hide hb1
    clear hb1
    go_wp2_with fail
    refine (unhide CW _).mono ?_
    rintro e w2 ⟨rfl, rfl⟩
    go_wp2
    go_ret2
    refine ⟨unhide HB, Or.inl ?_⟩
    rw [unhide HE]
    exact ⟨by decide, rfl⟩
  rw [decide_eq_true ha2] at CW
  have HE : Hid (fcode (n : Int) m f cu at_ = 0) := by show fcode (n : Int) m f cu at_ = 0; unfold fcode; rw [if_neg (by simpa using hk), if_neg (by omega)]
  obtain ⟨p, rfl⟩ : ∃ p : Nat, at_ = (p : Int) := ⟨at_.toNat, by omega⟩
  have hp : p < n := by omega
  have HF : Hid (∀ W, Below w.heap.size w W → Calls Tryd.prog 49 #[.int .i64 (n : Int), .slice a m c, .int .i64 (p : Int)] W (FarPost W n m f p)) := fun W hW => far_any n a m c f p W ((unhide HA).below hW) h0 h1 (by have := hT.mn; omega) hp hT.good
  clear ha2 hk hcu hT
  go_enter Tryd.func17, Tryd.ntmps17
  go_wp2_with fail
  refine (unhide HC).mono ?_
  rintro e w1 ⟨rfl, hb1⟩
  have HB := hide hb1
  clear hb1
  go_wp2_with fail
  refine (unhide CW _).mono ?_
  rintro e w2 ⟨rfl, rfl⟩
  have HF1 := hide (unhide HF w2 (unhide HB))
  go_wp2_with fail
  refine (unhide HF1).mono ?_
  rintro e w3 ⟨G, out, hG, rfl, hO, hr, he, hb3⟩
  have HFIN : Hid (FarE w (n : Int) m f cu (p : Int) (.returned (.tuple #[.slice (some ⟨G, 0, none⟩) n n, .nilIface])) w3) := by
    refine ⟨below_step (unhide HB) hb3, Or.inr ⟨unhide HE, fun n2 p2 s e1 e2 T2 => ?_⟩⟩
    obtain rfl : n = n2 := by omega
    obtain rfl : p = p2 := by omega
    exact ⟨G, Nat.le_trans (unhide HB).size hG, rfl, hO.congr (fun j hj => Tre.search_far T2.tr T2.good.lpos hp hr he j hj)⟩
  clear hO hr he hb3 hG HF HF1
  go_wp2
  go_ret2
  exact unhide HFIN

/-- How many people there may be. -/
def GoodP (n : Nat) (P : Nat → Int) : Prop := ∀ v, v < n → 0 ≤ P v ∧ P v ≤ 10000
theorem mul_bd {x y X Y : Int} (h1 : 0 ≤ x ∧ x ≤ X) (h2 : 0 ≤ y ∧ y ≤ Y) : 0 ≤ x * y ∧ x * y ≤ X * Y := by
  refine ⟨Int.mul_nonneg h1.1 h2.1, ?_⟩
  have a := Int.mul_le_mul_of_nonneg_right h1.2 h2.1
  have b := Int.mul_le_mul_of_nonneg_left h2.2 (show 0 ≤ X by omega)
  omega
def sumT (n m : Nat) (f : Nat → T3) (s : Nat → Nat → Bool) (P : Nat → Int) (p : Nat) : Int := Tre.Sum n m (eL f) s P p
theorem sumk_bd {n m : Nat} {f : Nat → T3} {s : Nat → Nat → Bool} {P : Nat → Int} (H : GTree n m f s) (hP : GoodP n P) (p : Nat) : ∀ k, k ≤ n → 0 ≤ Tre.sm (fun v => P v * dist m f s p v) k ∧ Tre.sm (fun v => P v * dist m f s p v) k ≤ 600000000000000 * k
  | 0, _ => by show (0 : Int) ≤ 0 ∧ (0 : Int) ≤ 600000000000000 * ((0 : Nat) : Int); omega
  | k + 1, hk => by
    have ih := sumk_bd H hP p k (by omega)
    have := mul_bd (hP k hk) (dist_bd H p k)
    rw [Tre.sm_succ]
    omega

set_option maxHeartbeats 4000000 in
set_option maxRecDepth 100000 in
theorem sum_any (n : Nat) (a : Option Addr) (m c : Nat) (f : Nat → T3) (s : Nat → Nat → Bool) (pa : Option Addr) (pc : Nat) (P : Nat → Int) (p : Nat) (w : World) (ha : TRow w a m c f) (hpr : IRow w pa n pc P) (H : GTree n m f s) (hP : GoodP n P) (hp : p < n) :
    Calls Tryd.prog 51 #[.int .i64 (n : Int), .slice a m c, .slice pa n pc, .int .i64 (p : Int)] w fun e w' => e = .returned (.int .i64 (sumT n m f s P p)) ∧ Below w.heap.size w w' := by
  have HF := hide (farT_any n a m c f s p w ha H hp)
  have HP := hide hpr
  have HT := hide H
  have HG := hide hP
  have h1 := H.few
  have h0 := H.one
  have q1 := ha.1
  have q2 := ha.2.1
  have q3 := hpr.1
  have q4 := hpr.2.1
  clear ha hpr H hP
  go_enter Tryd.func51, Tryd.ntmps51
  go_wp2_with fail
  refine (unhide HF).mono ?_
  rintro e w1 ⟨G, hG, rfl, hO, hb⟩
  obtain ⟨pb, po, rfl, hbl, hpc⟩ := (unhide HP).2.2 (by omega)
  have HOW := hide hO
  have HB := hide hb
  have HPC : Hid (∀ j, j < n → w1.cell? ⟨pb, po + j, none⟩ = some (.int .i64 (P j))) := fun j hj => by rw [hb.cell (p := ⟨pb, po + j, none⟩) hbl]; exact hpc j hj
  clear hO hb hG hpc HF
  go_wp2_with fail
  go_loopw [17, 9] (fun vi va wr => ∃ k : Nat, vi = .int .i64 (k : Int) ∧ va = .int .i64 (Tre.sm (fun v => P v * dist m f s p v) k) ∧ k ≤ n ∧ wr = w1) (fun vi _ _ => n - (intOf vi).toNat)
  case atStart => exact ⟨0, rfl, rfl, Nat.zero_le _, rfl⟩
  case round =>
    obtain ⟨k, rfl, rfl, hk, rfl⟩ := hrel
    by_cases hlt : k < n
    · have c0 := (unhide HOW).cell hlt
      have c1 := unhide HPC k hlt
      have bd0 := dist_bd (unhide HT) p k
      have bd1 := unhide HG k hlt
      have bd2 := sumk_bd (unhide HT) (unhide HG) p k hk
      have bd3 := mul_bd bd1 bd0
      have HS : Hid (Tre.sm (fun v => P v * dist m f s p v) (k + 1) = Tre.sm (fun v => P v * dist m f s p v) k + P k * dist m f s p k) := rfl
      obtain ⟨d, hd⟩ : ∃ d, dist m f s p k = d := ⟨_, rfl⟩
      obtain ⟨y, hy⟩ : ∃ y, P k = y := ⟨_, rfl⟩
      obtain ⟨t, ht⟩ : ∃ t, Tre.sm (fun v => P v * dist m f s p v) k = t := ⟨_, rfl⟩
      rw [hd] at c0 bd3 HS
      rw [hy] at c1 bd3 HS
      rw [ht] at bd2 HS ⊢
      obtain ⟨z, hz⟩ : ∃ z, y * d = z := ⟨_, rfl⟩
      rw [hz] at bd3 HS
      have f1 : IntKind.i64.wrap (y * d) = z := by rw [hz, IntKind.wrap_i64]; omega
      have f2 : IntKind.i64.wrap (t + z) = t + z := by rw [IntKind.wrap_i64]; omega
      have e1 : (0 : Int) ≤ (k : Int) := by omega
      have e2 : (k : Int) < (n : Int) := by omega
      clear bd0 bd1 bd2 bd3 hd hy ht hz
      go_wp2
      exact ⟨⟨k + 1, by go_num, by rw [unhide HS], hlt, by first | rfl | trivial⟩, by simp [intOf]; omega⟩
    · obtain rfl : k = n := by omega
      have e1 : ¬ (k : Int) < (k : Int) := by omega
      have HFIN : Hid (Tre.sm (fun v => P v * dist m f s p v) k = sumT k m f s P p) := rfl
      obtain ⟨t, ht⟩ : ∃ t, Tre.sm (fun v => P v * dist m f s p v) k = t := ⟨_, rfl⟩
      rw [ht] at HFIN ⊢
      clear ht
      go_wp2
      go_ret
      exact ⟨by rw [unhide HFIN]; rfl, unhide HB⟩

def jnd (out P : Nat → Int) (k : Nat) : Int := Tre.sm (fun v => if out v = -1 then 0 else P v) k
theorem jnd_bd {n : Nat} {out P : Nat → Int} (hP : GoodP n P) : ∀ k, k ≤ n → 0 ≤ jnd out P k ∧ jnd out P k ≤ 10000 * k
  | 0, _ => by show (0 : Int) ≤ 0 ∧ (0 : Int) ≤ 10000 * ((0 : Nat) : Int); omega
  | k + 1, hk => by
    have ih := jnd_bd hP (out := out) k (by omega)
    have := hP k hk
    unfold jnd at ih ⊢
    rw [Tre.sm_succ]
    split <;> omega
def JndPost (w : World) (n m : Nat) (f : Nat → T3) (P : Nat → Int) (p : Nat) (e : Ending) (w' : World) : Prop := ∃ out : Nat → Int, e = .returned (.int .i64 (jnd out P n)) ∧ Tre.Run m (eA f) (eB f) (eL f) allE p out ∧ Tre.Ended m (eA f) (eB f) allE out ∧ Below w.heap.size w w'
set_option maxHeartbeats 4000000 in
set_option maxRecDepth 100000 in
theorem joined_any (n : Nat) (a : Option Addr) (m c : Nat) (f : Nat → T3) (pa : Option Addr) (pc : Nat) (P : Nat → Int) (p : Nat) (w : World) (ha : TRow w a m c f) (hpr : IRow w pa n pc P) (hn1 : 1 ≤ n) (hn : n ≤ 60) (hm : m ≤ 60) (H : GoodE n m f) (hP : GoodP n P) (hp : p < n) :
    Calls Tryd.prog 54 #[.int .i64 (n : Int), .slice a m c, .slice pa n pc, .int .i64 (p : Int)] w (JndPost w n m f P p) := by
  have HF := hide (far_any n a m c f p w ha hn1 hn hm hp H)
  have HP := hide hpr
  have HG := hide hP
  have q1 := ha.1
  have q2 := ha.2.1
  have q3 := hpr.1
  have q4 := hpr.2.1
  clear ha hpr H hP
  go_enter Tryd.func54, Tryd.ntmps54
  go_wp2_with fail
  refine (unhide HF).mono ?_
  rintro e w1 ⟨G, out, hG, rfl, hO, hr, he, hb⟩
  obtain ⟨pb, po, rfl, hbl, hpc⟩ := (unhide HP).2.2 (by omega)
  have HOW := hide hO
  have HB := hide hb
  have HR := hide hr
  have HE := hide he
  have HPC : Hid (∀ j, j < n → w1.cell? ⟨pb, po + j, none⟩ = some (.int .i64 (P j))) := fun j hj => by rw [hb.cell (p := ⟨pb, po + j, none⟩) hbl]; exact hpc j hj
  clear hO hb hG hpc HF hr he
  go_wp2_with fail
  go_loopw [17, 9] (fun vi va wr => ∃ k : Nat, vi = .int .i64 (k : Int) ∧ va = .int .i64 (jnd out P k) ∧ k ≤ n ∧ wr = w1) (fun vi _ _ => n - (intOf vi).toNat)
  case atStart => exact ⟨0, rfl, rfl, Nat.zero_le _, rfl⟩
  case round =>
    obtain ⟨k, rfl, rfl, hk, rfl⟩ := hrel
    by_cases hlt : k < n
    · have c0 := (unhide HOW).cell hlt
      have c1 := unhide HPC k hlt
      have bd1 := unhide HG k hlt
      have bd2 := jnd_bd (unhide HG) (out := out) k hk
      have HS : Hid (jnd out P (k + 1) = jnd out P k + if out k = -1 then 0 else P k) := rfl
      obtain ⟨d, hd⟩ : ∃ d, out k = d := ⟨_, rfl⟩
      obtain ⟨y, hy⟩ : ∃ y, P k = y := ⟨_, rfl⟩
      obtain ⟨t, ht⟩ : ∃ t, jnd out P k = t := ⟨_, rfl⟩
      rw [hd] at c0 HS
      rw [hy] at c1 bd1 HS
      rw [ht] at bd2 HS ⊢
      have f2 : IntKind.i64.wrap (t + y) = t + y := by rw [IntKind.wrap_i64]; omega
      have e1 : (0 : Int) ≤ (k : Int) := by omega
      have e2 : (k : Int) < (n : Int) := by omega
      have e4 : IntKind.i64.wrap ((k : Int) + 1) = ((k + 1 : Nat) : Int) := by rw [IntKind.wrap_i64]; omega
      clear bd1 bd2 hd hy ht
      by_cases hd1 : d = -1
      · have e3 : (d != (-1 : Int)) = false := by simpa using hd1
        have HS2 : Hid (jnd out P (k + 1) = t) := by show _ = _; rw [unhide HS, if_pos hd1]; omega
        clear hd1
        go_wp2
        exact ⟨⟨k + 1, rfl, by rw [unhide HS2], hlt, by first | rfl | trivial⟩, by simp [intOf]; omega⟩
      · have e3 : (d != (-1 : Int)) = true := by simpa using hd1
        have HS2 : Hid (jnd out P (k + 1) = t + y) := by show _ = _; rw [unhide HS, if_neg hd1]
        clear hd1
        go_wp2
        exact ⟨⟨k + 1, rfl, by rw [unhide HS2], hlt, by first | rfl | trivial⟩, by simp [intOf]; omega⟩
    · obtain rfl : k = n := by omega
      have e1 : ¬ (k : Int) < (k : Int) := by omega
      obtain ⟨t, ht⟩ : ∃ t, jnd out P k = t := ⟨_, rfl⟩
      rw [ht]
      have HT := hide ht
      clear ht
      go_wp2
      go_ret
      exact ⟨out, by rw [unhide HT]; rfl, unhide HR, unhide HE, unhide HB⟩
end Go.Proofs.YtcmddkekidgkoaaDoor
