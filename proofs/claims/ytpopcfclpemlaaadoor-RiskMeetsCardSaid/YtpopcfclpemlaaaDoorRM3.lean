/- Things of gates: Paths, Cuts. -/
import Derived.Test.YtpopcfclpemlaaaDoorRM2
namespace Go.Proofs.YtpopcfclpemlaaaDoor
open Go.RowKit Go.Sort Go.Shelf

set_option maxHeartbeats 16000000 in
set_option maxRecDepth 100000 in
set_option linter.unusedSimpArgs false in
theorem pcl_any (a : Option Addr) (N c P s p1 : Nat) (g : Rsk.Gs) (H : Nat → Option Addr × Nat) (w : World) (hc : w.cell? ⟨p1, 0, none⟩ = some (.slice a N c)) (h : GRow w a N c g H) (G : GoodG P g N) (hs : s < 1099511627776) :
    Calls Tryd.prog 53 #[.int .i64 (s : Int), .pointer (some ⟨p1, 0, none⟩)] w fun e w' => e = .returned (.bool (Rsk.wk g N s)) ∧ Below w.heap.size w w' := by
  have HW := hide (works_any a N c P s g H w h G hs)
  have h1 := h.1
  have h2 := h.2.1
  obtain ⟨B, hB⟩ : ∃ B, Rsk.wk g N s = B := ⟨_, rfl⟩
  rw [hB] at HW ⊢
  clear h G hs hB
  go_enter Tryd.func53, Tryd.ntmps53
  go_wp2_with fail
  refine (unhide HW).mono ?_
  rintro e_ w2 ⟨rfl, hb⟩
  go_wp2
  go_ret
  exact ⟨rfl, hb⟩
set_option maxHeartbeats 16000000 in
set_option maxRecDepth 100000 in
set_option linter.unusedSimpArgs false in
theorem ccl_any (a : Option Addr) (N c P s p1 p2 : Nat) (g : Rsk.Gs) (H : Nat → Option Addr × Nat) (w : World) (hc : w.cell? ⟨p1, 0, none⟩ = some (.slice a N c)) (hc2 : w.cell? ⟨p2, 0, none⟩ = some (.int .i64 ((2 ^ P - 1 : Nat) : Int))) (h : GRow w a N c g H) (G : GoodG P g N) (hs : s < 2 ^ P) :
    Calls Tryd.prog 55 #[.int .i64 (s : Int), .pointer (some ⟨p1, 0, none⟩), .pointer (some ⟨p2, 0, none⟩)] w fun e w' => e = .returned (.bool (!Rsk.wk g N (Rsk.rest P s))) ∧ Below w.heap.size w w' := by
  have hp := pow_small (Nat.le_trans G.p2 (show 10 ≤ 40 by decide))
  have hrl : Rsk.rest P s < 1099511627776 := by
    have := Nat.pow_pos (n := P) (show 0 < 2 by decide)
    unfold Rsk.rest; omega
  have HW := hide (works_any a N c P (Rsk.rest P s) g H w h G hrl)
  have hrv := rest_val (Nat.le_trans G.p2 (by decide)) hs
  have h1 := h.1
  have h2 := h.2.1
  obtain ⟨A, hA⟩ : ∃ A, 2 ^ P - 1 = A := ⟨_, rfl⟩
  rw [hA] at hc2 hrv
  obtain ⟨r, hr⟩ : ∃ r, Rsk.rest P s = r := ⟨_, rfl⟩
  rw [hr] at HW hrv ⊢
  obtain ⟨B, hB⟩ : ∃ B, Rsk.wk g N r = B := ⟨_, rfl⟩
  rw [hB] at HW ⊢
  clear h G hs hB hr hA hp hrl
  go_enter Tryd.func55, Tryd.ntmps55
  go_wp2_with fail
  refine (unhide HW).mono ?_
  rintro e_ w2 ⟨rfl, hb⟩
  go_wp2
  go_ret
  exact ⟨rfl, hb⟩
def PathsPost (w : World) (L : List Nat) (e : Ending) (w' : World) : Prop := ∃ v, e = .returned (.tuple #[v, .nilIface]) ∧ NRowL w' v L ∧ Below w.heap.size w w'
set_option maxHeartbeats 16000000 in
set_option maxRecDepth 100000 in
set_option linter.unusedSimpArgs false in
theorem rPaths_err (P k : Int) (a : Option Addr) (N c : Nat) (g : Rsk.Gs) (H : Nat → Option Addr × Nat) (w : World) (h : GRow w a N c g H) (hk : gcode P g N = k) (hk0 : k ≠ 0) :
    Calls Tryd.prog 21 #[.int .i64 P, .slice a N c] w fun e w' => e = .returned (.tuple #[.slice none 0 0, .iface 92 (.int .i64 k)]) ∧ Below w.heap.size w w' := by
  have b0 := alloc_below w (.cells #[.slice a N c] 22)
  have n0 := heap_alloc_new w (.cells #[.slice a N c] 22)
  obtain ⟨W0, hW0⟩ : ∃ W, w.alloc (.cells #[.slice a N c] 22) = W := ⟨_, rfl⟩
  obtain ⟨p1, hp1⟩ : ∃ b, w.heap.size = b := ⟨_, rfl⟩
  rw [hW0] at b0 n0
  rw [hp1] at n0
  have k0 : W0.cell? ⟨p1, 0, none⟩ = some (.slice a N c) := by simp [World.cell?, n0]
  have HK : Hid (∀ W, Below W0.heap.size W0 W → W.cell? ⟨p1, 0, none⟩ = some (.slice a N c)) := fun W hW => by
    rw [hW.cell (p := ⟨p1, 0, none⟩) (Array.getElem?_eq_some_iff.1 n0).1]; exact k0
  have HB0 := hide b0
  have HG0 : Hid (∀ W, Below W0.heap.size W0 W → GRow W a N c g H) := fun W hW => h.below (below_step b0 hW)
  have HC := hide (gcheck_any P a N c g H W0 (unhide HG0 _ (Below.refl _ _)))
  rw [hk, errV_not hk0] at HC
  have h1 := h.1
  have h2 := h.2.1
  clear h hk hk0 b0 n0
  go_enter Tryd.func21, Tryd.ntmps21
  go_wp2_with fail
  clear hW0 hp1 k0
  refine (unhide HC).mono ?_
  rintro e w1 ⟨rfl, hb1⟩
  go_wp2
  go_ret2
  exact ⟨rfl, below_step (unhide HB0) hb1⟩

set_option maxHeartbeats 16000000 in
set_option maxRecDepth 100000 in
set_option linter.unusedSimpArgs false in
theorem rCuts_err (P k : Int) (a : Option Addr) (N c : Nat) (g : Rsk.Gs) (H : Nat → Option Addr × Nat) (w : World) (h : GRow w a N c g H) (hk : gcode P g N = k) (hk0 : k ≠ 0) :
    Calls Tryd.prog 22 #[.int .i64 P, .slice a N c] w fun e w' => e = .returned (.tuple #[.slice none 0 0, .iface 92 (.int .i64 k)]) ∧ Below w.heap.size w w' := by
  have b0 := alloc_below w (.cells #[.slice a N c] 22)
  have n0 := heap_alloc_new w (.cells #[.slice a N c] 22)
  obtain ⟨W0, hW0⟩ : ∃ W, w.alloc (.cells #[.slice a N c] 22) = W := ⟨_, rfl⟩
  obtain ⟨p1, hp1⟩ : ∃ b, w.heap.size = b := ⟨_, rfl⟩
  rw [hW0] at b0 n0
  rw [hp1] at n0
  have k0 : W0.cell? ⟨p1, 0, none⟩ = some (.slice a N c) := by simp [World.cell?, n0]
  have HK : Hid (∀ W, Below W0.heap.size W0 W → W.cell? ⟨p1, 0, none⟩ = some (.slice a N c)) := fun W hW => by
    rw [hW.cell (p := ⟨p1, 0, none⟩) (Array.getElem?_eq_some_iff.1 n0).1]; exact k0
  have HB0 := hide b0
  have HG0 : Hid (∀ W, Below W0.heap.size W0 W → GRow W a N c g H) := fun W hW => h.below (below_step b0 hW)
  have HC := hide (gcheck_any P a N c g H W0 (unhide HG0 _ (Below.refl _ _)))
  rw [hk, errV_not hk0] at HC
  have h1 := h.1
  have h2 := h.2.1
  clear h hk hk0 b0 n0
  go_enter Tryd.func22, Tryd.ntmps22
  go_wp2_with fail
  clear hW0 hp1 k0
  refine (unhide HC).mono ?_
  rintro e w1 ⟨rfl, hb1⟩
  go_wp2
  go_ret2
  exact ⟨rfl, below_step (unhide HB0) hb1⟩

set_option maxHeartbeats 16000000 in
set_option maxRecDepth 100000 in
set_option linter.unusedSimpArgs false in
theorem rPaths_ok (P : Nat) (a : Option Addr) (N c : Nat) (g : Rsk.Gs) (H : Nat → Option Addr × Nat) (w : World) (h : GRow w a N c g H) (hk : gcode (P : Int) g N = 0) :
    Calls Tryd.prog 21 #[.int .i64 (P : Int), .slice a N c] w (PathsPost w (Rsk.lsts P (Rsk.wk g N) (2 ^ P))) := by
  have b0 := alloc_below w (.cells #[.slice a N c] 22)
  have n0 := heap_alloc_new w (.cells #[.slice a N c] 22)
  obtain ⟨W0, hW0⟩ : ∃ W, w.alloc (.cells #[.slice a N c] 22) = W := ⟨_, rfl⟩
  obtain ⟨p1, hp1⟩ : ∃ b, w.heap.size = b := ⟨_, rfl⟩
  rw [hW0] at b0 n0
  rw [hp1] at n0
  have k0 : W0.cell? ⟨p1, 0, none⟩ = some (.slice a N c) := by simp [World.cell?, n0]
  have HK : Hid (∀ W, Below W0.heap.size W0 W → W.cell? ⟨p1, 0, none⟩ = some (.slice a N c)) := fun W hW => by
    rw [hW.cell (p := ⟨p1, 0, none⟩) (Array.getElem?_eq_some_iff.1 n0).1]; exact k0
  have HB0 := hide b0
  have HG0 : Hid (∀ W, Below W0.heap.size W0 W → GRow W a N c g H) := fun W hW => h.below (below_step b0 hW)
  have hG := goodG_of hk
  have hP := hG.p2
  have HC := hide (gcheck_any (P : Int) a N c g H W0 (unhide HG0 _ (Below.refl _ _)))
  rw [hk, errV_zero] at HC
  have HLE : Hid (∀ W, Below W0.heap.size W0 W → Calls Tryd.prog 52 #[.int .i64 (P : Int), .func (.func 53) #[] #[.pointer (some ⟨p1, 0, none⟩)]] W (LeastPost W (Rsk.lsts P (Rsk.wk g N) (2 ^ P)))) := fun W hW => pth_least P (Rsk.wk g N) p1 W0 W hP hW (fun W s hW hs => pcl_any a N c P s p1 g H W (unhide HK W hW) (unhide HG0 W hW) hG (Nat.lt_of_lt_of_le hs (pow_small (Nat.le_trans hP (by decide)))))
  obtain ⟨L, hL⟩ : ∃ L, Rsk.lsts P (Rsk.wk g N) (2 ^ P) = L := ⟨_, rfl⟩
  rw [hL] at HLE ⊢
  have h1 := h.1
  have h2 := h.2.1
  clear h hk b0 n0 hG hL
  go_enter Tryd.func21, Tryd.ntmps21
  go_wp2_with fail
  clear hW0 hp1 k0
  refine (unhide HC).mono ?_
  rintro e w1 ⟨rfl, hb1⟩
  have HL1 := hide (unhide HLE w1 hb1)
  have HB1 := hide (below_step (unhide HB0) hb1)
  clear hb1 HC HLE
  go_wp2_with fail
  refine (unhide HL1).mono ?_
  rintro e w2 ⟨v2, rfl, hn2, hb2⟩
  have HN := hide hn2
  have HB2 := hide (below_step (unhide HB1) hb2)
  clear hn2 hb2 HL1
  go_wp2
  go_ret2
  exact ⟨v2, rfl, unhide HN, unhide HB2⟩

set_option maxHeartbeats 16000000 in
set_option maxRecDepth 100000 in
set_option linter.unusedSimpArgs false in
theorem rCuts_ok (P : Nat) (a : Option Addr) (N c : Nat) (g : Rsk.Gs) (H : Nat → Option Addr × Nat) (w : World) (h : GRow w a N c g H) (hk : gcode (P : Int) g N = 0) :
    Calls Tryd.prog 22 #[.int .i64 (P : Int), .slice a N c] w (PathsPost w (Rsk.lsts P (fun s => !Rsk.wk g N (Rsk.rest P s)) (2 ^ P))) := by
  have b0 := alloc_below w (.cells #[.slice a N c] 22)
  have n0 := heap_alloc_new w (.cells #[.slice a N c] 22)
  obtain ⟨W0, hW0⟩ : ∃ W, w.alloc (.cells #[.slice a N c] 22) = W := ⟨_, rfl⟩
  obtain ⟨p1, hp1⟩ : ∃ b, w.heap.size = b := ⟨_, rfl⟩
  rw [hW0] at b0 n0
  rw [hp1] at n0
  have k0 : W0.cell? ⟨p1, 0, none⟩ = some (.slice a N c) := by simp [World.cell?, n0]
  have HK : Hid (∀ W, Below W0.heap.size W0 W → W.cell? ⟨p1, 0, none⟩ = some (.slice a N c)) := fun W hW => by
    rw [hW.cell (p := ⟨p1, 0, none⟩) (Array.getElem?_eq_some_iff.1 n0).1]; exact k0
  have HB0 := hide b0
  have HG0 : Hid (∀ W, Below W0.heap.size W0 W → GRow W a N c g H) := fun W hW => h.below (below_step b0 hW)
  have hG := goodG_of hk
  have hP := hG.p2
  have HC := hide (gcheck_any (P : Int) a N c g H W0 (unhide HG0 _ (Below.refl _ _)))
  rw [hk, errV_zero] at HC
  obtain ⟨M, hM⟩ : ∃ M, 2 ^ P = M := ⟨_, rfl⟩
  have hM1 : M ≤ 1024 := by rw [← hM]; exact Nat.pow_le_pow_right (by decide) hP
  have hM0 : 1 ≤ M := by rw [← hM]; exact Nat.pow_pos (by decide)
  have HWN : Hid (wrap64 ((2 : Int) ^ P) = (M : Int)) := show _ = _ by rw [wrap64_pow (Nat.le_trans hP (by decide)), hM]
  obtain ⟨A, hA⟩ : ∃ A, M - 1 = A := ⟨_, rfl⟩
  have jA : (M : Int) - 1 = (A : Int) := by omega
  have jw : IntKind.i64.wrap (A : Int) = (A : Int) := by rw [IntKind.wrap_i64]; omega
  have HLE : Hid (∀ W p2, Below W0.heap.size W0 W → (∀ W', Below W.heap.size W W' → W'.cell? ⟨p2, 0, none⟩ = some (.int .i64 (A : Int))) → Calls Tryd.prog 52 #[.int .i64 (P : Int), .func (.func 55) #[] #[.pointer (some ⟨p1, 0, none⟩), .pointer (some ⟨p2, 0, none⟩)]] W (LeastPost W (Rsk.lsts P (fun s => !Rsk.wk g N (Rsk.rest P s)) (2 ^ P)))) := fun W p2 hW hc2 => cut_least P (fun s => !Rsk.wk g N (Rsk.rest P s)) p1 p2 W W hP (Below.refl _ _) (fun W' s hW' hs => ccl_any a N c P s p1 p2 g H W' (unhide HK W' (below_step hW hW')) (by rw [hM, hA]; exact hc2 W' hW') (unhide HG0 W' (below_step hW hW')) hG hs)
  obtain ⟨L, hL⟩ : ∃ L, Rsk.lsts P (fun s => !Rsk.wk g N (Rsk.rest P s)) (2 ^ P) = L := ⟨_, rfl⟩
  rw [hL] at HLE ⊢
  have h1 := h.1
  have h2 := h.2.1
  clear h hk b0 n0 hG hL hM hA
  have hwn := unhide HWN
  go_enter Tryd.func22, Tryd.ntmps22
  go_wp2_with fail
  clear hW0 hp1 k0
  refine (unhide HC).mono ?_
  rintro e w1 ⟨rfl, hb1⟩
  have b2 := alloc_below w1 (.cells #[.int .i64 (A : Int)] 3)
  have n2 := heap_alloc_new w1 (.cells #[.int .i64 (A : Int)] 3)
  obtain ⟨W2, hW2⟩ : ∃ W, w1.alloc (.cells #[.int .i64 (A : Int)] 3) = W := ⟨_, rfl⟩
  obtain ⟨p2, hp2⟩ : ∃ b, w1.heap.size = b := ⟨_, rfl⟩
  rw [hW2] at b2 n2
  rw [hp2] at n2
  have HL1 := hide (unhide HLE W2 p2 (below_step hb1 b2) (fun W' hW' => by
    rw [hW'.cell (p := ⟨p2, 0, none⟩) (Array.getElem?_eq_some_iff.1 n2).1]; simp [World.cell?, n2]))
  have HB1 := hide (below_step (unhide HB0) (below_step hb1 b2))
  clear hb1 HC HLE b2 n2
  go_wp2_with fail
  clear hW2 hp2 hwn
  refine (unhide HL1).mono ?_
  rintro e w2 ⟨v2, rfl, hn2, hb2⟩
  have HN := hide hn2
  have HB2 := hide (below_step (unhide HB1) hb2)
  clear hn2 hb2 HL1
  go_wp2
  go_ret2
  exact ⟨v2, rfl, unhide HN, unhide HB2⟩

end Go.Proofs.YtpopcfclpemlaaaDoor
