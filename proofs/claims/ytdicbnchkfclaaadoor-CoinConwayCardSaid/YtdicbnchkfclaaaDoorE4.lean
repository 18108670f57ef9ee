/- coin.Wait, coin.First. -/
import Derived.Test.YtdicbnchkfclaaaDoorE3
namespace Go.Proofs.YtdicbnchkfclaaaDoor
open Go.RowKit Go.Sort Go.Shelf

def zAgg : Value := .agg #[.bool false, .slice none 0 0, .slice none 0 0]

theorem CkSays.congr {e : Ending} {w w' : World} {p q : Prop} (h : CkSays e w w' p) (hpq : p ↔ q) : CkSays e w w' q := by
  obtain ⟨k, h1, h2, h3⟩ := h
  exact ⟨k, h1, h2.trans hpq, h3⟩

/-- The result's box, and the words that are handed on. -/
def wordsBox (w : World) (cs : Array Value) : World := (w.alloc (.cells #[.bool false, .slice none 0 0, .slice none 0 0] 36)).alloc (.cells cs 60)
theorem wordsBox_parts (w : World) (cs : Array Value) : Below w.heap.size w (wordsBox w cs) ∧ BoxIs (wordsBox w cs) w.heap.size zTri 0 ∧ w.heap.size + 1 < (wordsBox w cs).heap.size ∧ ∀ j, (wordsBox w cs).cell? ⟨w.heap.size + 1, j, none⟩ = cs[j]? := by
  have e : (w.alloc (.cells #[.bool false, .slice none 0 0, .slice none 0 0] 36)).heap.size = w.heap.size + 1 := alloc_size _ _
  refine ⟨below_step (alloc_below w (.cells #[.bool false, .slice none 0 0, .slice none 0 0] 36)) (alloc_below _ (.cells cs 60)), (BoxIs.new (w := w) (t := zTri) (q := 0) (rat_zero _)).keep (alloc_below _ (.cells cs 60)), ?_, fun j => ?_⟩
  · unfold wordsBox
    rw [alloc_size, e]
    omega
  · have hh : (wordsBox w cs).heap[w.heap.size + 1]? = some (.cells cs 60) := by
      unfold wordsBox
      rw [alloc_heap, ← e, Array.getElem?_push_size]
    unfold World.cell?
    rw [hh]
    rfl

theorem ck1 (v : Value) (qs : List Rat) (a : Option Addr) (M c : Nat) (g : Nat → Int) (w : World) (hL : LawIs w v qs) (ha : IRow w a M c g) (hq : ∀ j, j < qs.length → RS qs[j]! 1) (hl : qs.length ≤ 10) :
    Calls Tryd.prog 59 #[v, .slice (some ⟨w.heap.size + 1, 0, none⟩) 1 1] (wordsBox w #[.slice a M c]) fun e w' => CkSays e (wordsBox w #[.slice a M c]) w' (chk qs = 0 ∧ GoodW qs M g) := by
  obtain ⟨hb, _, hlt, hc⟩ := wordsBox_parts w #[.slice a M c]
  have KKe : KK = 1099511627776 := rfl
  refine (coinCheck_any v qs 1 (w.heap.size + 1) 0 1 [((a, M, c), g)] _ (hL.below hb) ⟨hlt, fun j h => ?_⟩ (by simp) (by decide) hq (by rw [KKe]; omega)).mono fun e w' h => h.congr ?_
  · obtain rfl : j = 0 := by simp at h; omega
    exact ⟨hc 0, ha.below hb⟩
  · refine and_congr_right fun _ => ⟨fun h => h 0 (by simp), fun h j hj => ?_⟩
    obtain rfl : j = 0 := by simp at hj; omega
    exact h

theorem ck2 (v : Value) (qs : List Rat) (a a' : Option Addr) (M c N c' : Nat) (g f : Nat → Int) (w : World) (hL : LawIs w v qs) (ha : IRow w a M c g) (hb' : IRow w a' N c' f) (hq : ∀ j, j < qs.length → RS qs[j]! 1) (hl : qs.length ≤ 10) :
    Calls Tryd.prog 59 #[v, .slice (some ⟨w.heap.size + 1, 0, none⟩) 2 2] (wordsBox w #[.slice a M c, .slice a' N c']) fun e w' => CkSays e (wordsBox w #[.slice a M c, .slice a' N c']) w' (chk qs = 0 ∧ GoodW qs M g ∧ GoodW qs N f) := by
  obtain ⟨hb, _, hlt, hc⟩ := wordsBox_parts w #[.slice a M c, .slice a' N c']
  have KKe : KK = 1099511627776 := rfl
  refine (coinCheck_any v qs 1 (w.heap.size + 1) 0 2 [((a, M, c), g), ((a', N, c'), f)] _ (hL.below hb) ⟨hlt, fun j h => ?_⟩ (by simp) (by decide) hq (by rw [KKe]; omega)).mono fun e w' h => h.congr ?_
  · have hj : j = 0 ∨ j = 1 := by simp at h; omega
    rcases hj with rfl | rfl
    · exact ⟨hc 0, ha.below hb⟩
    · exact ⟨hc 1, hb'.below hb⟩
  · refine and_congr_right fun _ => ⟨fun h => ⟨h 0 (by simp), h 1 (by simp)⟩, fun h j hj => ?_⟩
    have hj : j = 0 ∨ j = 1 := by simp at hj; omega
    rcases hj with rfl | rfl
    · exact h.1
    · exact h.2

set_option maxHeartbeats 8000000 in
set_option maxRecDepth 100000 in
set_option linter.unusedSimpArgs false in
theorem wait_err (v : Value) (qs : List Rat) (a : Option Addr) (M c : Nat) (g : Nat → Int) (w : World) (hL : LawIs w v qs) (ha : IRow w a M c g) (hq : ∀ j, j < qs.length → RS qs[j]! 1) (hl : qs.length ≤ 10) (hno : ¬ (chk qs = 0 ∧ GoodW qs M g)) :
    Calls Tryd.prog 30 #[v, .slice a M c] w fun e w' => ∃ k, e = .returned (.tuple #[zAgg, .iface 68 (.int .i64 k)]) ∧ Below w.heap.size w w' := by
  obtain ⟨hb0, hx0, _, _⟩ := wordsBox_parts w #[.slice a M c]
  have HC := hide (ck1 v qs a M c g w hL ha hq hl)
  have HB_0 := hide hb0
  have HX_b4_0 := hide hx0
  have HLAW := hide hL
  have HQ := hide hq
  have hWE : (w.alloc (.cells #[.bool false, .slice none 0 0, .slice none 0 0] 36)).alloc (.cells #[.slice a M c] 60) = wordsBox w #[.slice a M c] := rfl
  obtain ⟨W0, hW0⟩ : ∃ W, wordsBox w #[.slice a M c] = W := ⟨_, rfl⟩
  rw [hW0] at HC HB_0 HX_b4_0 hWE
  have HWE := hide hWE
  clear hWE hW0 hb0 hx0 hL hq
  go_enter Tryd.func30, Tryd.ntmps30
  go_wp2_with fail
  rw [unhide HWE]
  clear HWE
  obtain ⟨b4, hb4⟩ : ∃ b, w.heap.size = b := ⟨_, rfl⟩
  have HG_b4 : Hid (w.heap.size ≤ b4) := by rw [hb4]; exact Nat.le_refl _
  rw [hb4] at HX_b4_0 HC ⊢
  clear hb4
  refine (unhide HC).mono ?_
  rintro e w_1 ⟨k, rfl, hk, hbx⟩
  clear HC
  have HX_b4_1 := hide ((unhide HX_b4_0).keep hbx)
  have hk0 : k ≠ 0 := fun h => hno (hk.1 h)
  rw [show errV k = .iface 68 (.int .i64 k) from if_neg hk0]
  have ⟨l0, l1, l2⟩ := (unhide HX_b4_1).free
  have ⟨y0, y1, y2⟩ := (unhide HX_b4_1).cells _ (Below.refl _ _)
  have FIN := hide ((unhide HX_b4_1).set (t' := zTri) (q' := 0) (rat_zero _))
  have FB := hide ((((below_step (unhide HB_0) hbx).setCell (p := ⟨b4, 0, none⟩) (unhide HG_b4) (.bool zTri.s)).setCell (p := ⟨b4, 1, none⟩) (unhide HG_b4) (.slice zTri.a1 zTri.n1 zTri.c1)).setCell (p := ⟨b4, 2, none⟩) (unhide HG_b4) (.slice zTri.a2 zTri.n2 zTri.c2))
  simp only [zTri] at FIN FB y0 y1 y2
  have ⟨x0, x1, x2⟩ := (unhide FIN).cells _ (Below.refl _ _)
  (try dsimp only at x0 x1 x2)
  clear hk hbx HX_b4_0 HX_b4_1 HB_0 HLAW HQ FIN
  go_wp2
  exact bodyPost_ret (v := .tuple #[zAgg, .iface 68 (.int .i64 k)]) (by simp [results, Tryd.results30, go_sem, x0, x1, x2, zAgg]) rfl ⟨k, rfl, unhide FB⟩

set_option maxHeartbeats 8000000 in
set_option maxRecDepth 100000 in
set_option linter.unusedSimpArgs false in
theorem wait_ok (v : Value) (qs : List Rat) (a : Option Addr) (M c : Nat) (g : Nat → Int) (w : World) (hL : LawIs w v qs) (ha : IRow w a M c g) (hq : ∀ j, j < qs.length → RS qs[j]! 1) (hl : qs.length ≤ 10) (hck : chk qs = 0) (hg : GoodW qs M g) :
    Calls Tryd.prog 30 #[v, .slice a M c] w fun e w' => ∃ v, e = .returned (.tuple #[v, .nilIface]) ∧ RatIs w' v (Kmp.cw g (pOf qs) M) ∧ Below w.heap.size w w' := by
  have HROW := hide ha
  obtain ⟨hb0, hx0, _, _⟩ := wordsBox_parts w #[.slice a M c]
  have HC := hide (ck1 v qs a M c g w hL ha hq hl)
  have HB_0 := hide hb0
  have HX_b4_0 := hide hx0
  have HLAW := hide hL
  have HQ := hide hq
  have hWE : (w.alloc (.cells #[.bool false, .slice none 0 0, .slice none 0 0] 36)).alloc (.cells #[.slice a M c] 60) = wordsBox w #[.slice a M c] := rfl
  obtain ⟨W0, hW0⟩ : ∃ W, wordsBox w #[.slice a M c] = W := ⟨_, rfl⟩
  rw [hW0] at HC HB_0 HX_b4_0 hWE
  have HWE := hide hWE
  clear hWE hW0 hb0 hx0 hL hq
  go_enter Tryd.func30, Tryd.ntmps30
  go_wp2_with fail
  rw [unhide HWE]
  clear HWE
  obtain ⟨b4, hb4⟩ : ∃ b, w.heap.size = b := ⟨_, rfl⟩
  have HG_b4 : Hid (w.heap.size ≤ b4) := by rw [hb4]; exact Nat.le_refl _
  rw [hb4] at HX_b4_0 HC ⊢
  clear hb4
  refine (unhide HC).mono ?_
  rintro e w_1 ⟨k, rfl, hk, hbx⟩
  clear HC
  obtain rfl : k = 0 := hk.2 ⟨hck, hg⟩
  simp only [show errV 0 = Value.nilIface from rfl]
  have HX_b4_1 := hide ((unhide HX_b4_0).keep hbx)
  have HB_1 := hide (below_step (unhide HB_0) hbx)
  have HLE := hide (lead_any v qs a a M c M c g g w_1 ((unhide HLAW).below (unhide HB_1)) ((unhide HROW).below (unhide HB_1)) ((unhide HROW).below (unhide HB_1)) (unhide HQ) hg hg)
  rw [Nat.min_self, Kmp.lead_self] at HLE
  clear hk hbx HX_b4_0 HB_0 hck hg ha HROW HQ HLAW
  go_wp2_with fail
  refine (unhide HLE).mono ?_
  rintro e w_11 ⟨v2, rfl, hv2, hbx⟩
  obtain ⟨ta, rfl, hr_11⟩ := tri_of hv2
  simp only [Tri.val]
  have HB_12 := hide (below_step (unhide HB_1) hbx)
  have HX_b4_12 := hide ((unhide HX_b4_1).keep hbx)
  clear HB_1 HX_b4_1
  have ⟨l11_0, l11_1, l11_2⟩ := (unhide HX_b4_12).free
  have ⟨y11_0, y11_1, y11_2⟩ := (unhide HX_b4_12).cells _ (Below.refl _ _)
  have HZ_b4_11 := hide ((unhide HX_b4_12).set hr_11)
  have HB_11s := hide ((((unhide HB_12).setCell (p := ⟨b4, 0, none⟩) (unhide HG_b4) (.bool ta.s)).setCell (p := ⟨b4, 1, none⟩) (unhide HG_b4) (.slice ta.a1 ta.n1 ta.c1)).setCell (p := ⟨b4, 2, none⟩) (unhide HG_b4) (.slice ta.a2 ta.n2 ta.c2))
  clear HB_12 HX_b4_12 hv2 hbx hr_11
  obtain ⟨Ws_11, hWs_11⟩ : ∃ W, ((w_11.setCell ⟨b4, 0, none⟩ (.bool ta.s)).setCell ⟨b4, 1, none⟩ (.slice ta.a1 ta.n1 ta.c1)).setCell ⟨b4, 2, none⟩ (.slice ta.a2 ta.n2 ta.c2) = W := ⟨_, rfl⟩
  rw [hWs_11] at HB_11s HZ_b4_11
  have ⟨x0, x1, x2⟩ := (unhide HZ_b4_11).cells _ (Below.refl _ _)
  go_wp2
  exact bodyPost_ret (v := .tuple #[.agg #[.bool ta.s, .slice ta.a1 ta.n1 ta.c1, .slice ta.a2 ta.n2 ta.c2], .nilIface]) (by simp [results, Tryd.results30, go_sem, x0, x1, x2]) rfl ⟨_, rfl, (unhide HZ_b4_11).2, unhide HB_11s⟩

end Go.Proofs.YtdicbnchkfclaaaDoor
