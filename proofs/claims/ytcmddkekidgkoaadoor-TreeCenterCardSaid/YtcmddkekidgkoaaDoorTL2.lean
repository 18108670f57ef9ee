/- The document's far, TreeCheck, PeopleCheck, Sum20. -/
import Derived.Test.YtcmddkekidgkoaaDoorTL1
namespace Go.Proofs.YtcmddkekidgkoaaDoor
open Go.RowKit Go.Sort Go.Shelf

def RFar (w : World) (n m : Nat) (f : Nat → T3) (p : Nat) (kk : Int) (e : Ending) (w' : World) : Prop := ∃ (G : Nat) (out : Nat → Int), w.heap.size ≤ G ∧ e = .returned (.slice (some ⟨G, 0, none⟩) n n) ∧ OwnI w' G n out ∧ RunK m f kk p out ∧ Tre.Ended m (eA f) (eB f) (okE kk) out ∧ Below w.heap.size w w'
theorem Bx.set {w : World} {b : Nat} {u : Value} (h : ∃ v, w.cell? ⟨b, 0, none⟩ = some v) (hlt : b < w.heap.size) : Bx (w.setCell ⟨b, 0, none⟩ u) b u := by
  obtain ⟨v, hv⟩ := h
  exact ⟨World.cell?_setCell_same _ _ _ hv, by rw [setCell_eq]; simpa [mapBlock] using hlt⟩
set_option maxHeartbeats 16000000 in
set_option maxRecDepth 100000 in
theorem rfar_any (n : Nat) (la : Option Addr) (m lc : Nat) (f : Nat → T3) (p : Nat) (kk : Int) (w : World) (ha : TRow w la m lc f) (hn1 : 1 ≤ n) (hn : n ≤ 60) (hm : m ≤ 60) (hp : p < n) (H : GoodE n m f) :
    Calls Tryd.prog 45 #[.int .i64 (n : Int), .slice la m lc, .int .i64 (p : Int), .int .i64 kk] w (RFar w n m f p kk) := by
  have X1 := Bx.new w (.slice la m lc) 23
  have B1 := alloc_below w (.cells #[.slice la m lc] 23)
  obtain ⟨W1, hW1⟩ : ∃ W, w.alloc (.cells #[.slice la m lc] 23) = W := ⟨_, rfl⟩
  obtain ⟨bl, hbl⟩ : ∃ b, w.heap.size = b := ⟨_, rfl⟩
  rw [hW1] at X1 B1
  rw [hbl] at X1
  have X2 := Bx.new W1 (.int .i64 kk) 3
  have B2 := alloc_below W1 (.cells #[.int .i64 kk] 3)
  obtain ⟨W2, hW2⟩ : ∃ W, W1.alloc (.cells #[.int .i64 kk] 3) = W := ⟨_, rfl⟩
  obtain ⟨bk, hbk⟩ : ∃ b, W1.heap.size = b := ⟨_, rfl⟩
  rw [hW2] at X2 B2
  rw [hbk] at X2
  have mk := make_ints n (by omega) W2
  have O3 := make_own W2 n
  have B3 := alloc_below W2 (.cells (lrow (fun _ => 0) n).toArray 3)
  obtain ⟨W3, hW3⟩ : ∃ W, W2.alloc (.cells (lrow (fun _ => 0) n).toArray 3) = W := ⟨_, rfl⟩
  obtain ⟨G, hG⟩ : ∃ b, W2.heap.size = b := ⟨_, rfl⟩
  rw [hW3] at mk O3 B3
  rw [hG] at mk O3
  have X4 := Bx.new W3 (.slice (some ⟨G, 0, none⟩) n n) 31
  have B4 := alloc_below W3 (.cells #[.slice (some ⟨G, 0, none⟩) n n] 31)
  obtain ⟨W4, hW4⟩ : ∃ W, W3.alloc (.cells #[.slice (some ⟨G, 0, none⟩) n n] 31) = W := ⟨_, rfl⟩
  obtain ⟨bo, hbo⟩ : ∃ b, W3.heap.size = b := ⟨_, rfl⟩
  rw [hW4] at X4 B4
  rw [hbo] at X4
  have hlG : bl < G ∧ bk < G ∧ G < bo ∧ w.heap.size ≤ G := by
    have h1 := X1.2
    have h2 := X2.2
    have h3 := B2.size
    have h4 := B1.size
    have h5 := O3.lt
    omega
  have HLG := hide hlG
  have X1 := ((X1.keep B2).keep B3).keep B4
  have X2 := (X2.keep B3).keep B4
  have O4 := O3.keep B4
  have BA := below_step (below_step (below_step B1 B2) B3) B4
  have HX1 := hide X1
  have HX2 := hide X2
  have HX4 := hide X4
  have HO4 := hide O4
  have HBA := hide BA
  have HA := hide ha
  have k4 := X4.1
  have q1 := ha.1
  have q2 := ha.2.1
  clear X1 X2 X4 O3 O4 B1 B2 B3 B4 BA ha hlG
  go_enter Tryd.func45, Tryd.ntmps45
  go_wp2_with fail
  clear mk k4 hW1 hW2 hW3 hW4 hbl hbk hG hbo
  go_loopw [16] (fun vi wr => ∃ k : Nat, vi = .int .i64 (k : Int) ∧ k ≤ n ∧ OwnI wr G n (fun v => if v < k then -1 else 0) ∧ W4.grownBy wr (some G)) (fun vi _ => n - (intOf vi).toNat)
  case atStart => exact ⟨0, rfl, Nat.zero_le _, (unhide HO4).congr (fun j _ => by rw [if_neg (Nat.not_lt_zero _)]), World.grownBy.refl _ _⟩
  case round =>
    obtain ⟨k, rfl, hk, hO, hg⟩ := hrel
    clear HO4
    by_cases hlt : k < n
    · have x4 := ((unhide HX4).grow (by have := unhide HLG; omega) hg).1
      have l0 := hO.cell hlt
      have l1 := hO.free k
      obtain ⟨u0, l0⟩ : ∃ v : Value, wr.cell? ⟨G, k, none⟩ = some v := ⟨_, l0⟩
      have HO : Hid (OwnI (wr.setCell ⟨G, k, none⟩ (.int .i64 (-1))) G n (fun v => if v < k + 1 then -1 else 0)) := (hO.set k (-1)).congr (fun j _ => by
        unfold updI
        by_cases c : j = k
        · rw [if_pos c, if_pos (by omega)]
        · rw [if_neg c]
          show (if j < k then (-1 : Int) else 0) = _
          by_cases c2 : j < k
          · rw [if_pos c2, if_pos (by omega)]
          · rw [if_neg c2, if_neg (by omega)])
      have HG := hide (hg.trans (World.grownBy.setC wr G k (.int .i64 (-1))))
      have e1 : (0 : Int) ≤ (k : Int) := by omega
      have e2 : (k : Int) < (n : Int) := by omega
      have e3 : IntKind.i64.wrap ((k : Int) + 1) = ((k + 1 : Nat) : Int) := by rw [IntKind.wrap_i64]; omega
      clear hO hg
      go_wp2
      exact ⟨⟨k + 1, rfl, hlt, unhide HO, unhide HG⟩, by simp [intOf]; omega⟩
    · obtain rfl : k = n := by omega
      have e1 : ¬ (k : Int) < (k : Int) := by omega
      have hO2 : OwnI wr G k (fun _ => -1) := hO.congr (fun j hj => by rw [if_pos hj])
      have x1 := (unhide HX1).grow (by have := unhide HLG; omega) hg
      have x2 := (unhide HX2).grow (by have := unhide HLG; omega) hg
      have x4 := (unhide HX4).grow (by have := unhide HLG; omega) hg
      have BR : Below w.heap.size w wr := Below.grown (unhide HBA) hg (unhide HBA).size (fun q hq => by obtain rfl := Option.some.inj hq; exact (unhide HLG).2.2.2)
      have X5 := Bx.new wr .nilFunc 133
      have B5 := alloc_below wr (.cells #[.nilFunc] 133)
      obtain ⟨W5, hW5⟩ : ∃ W, wr.alloc (.cells #[.nilFunc] 133) = W := ⟨_, rfl⟩
      obtain ⟨bw, hbw⟩ : ∃ b, wr.heap.size = b := ⟨_, rfl⟩
      have hwl : bl < bw ∧ bk < bw ∧ bo < bw ∧ G < bw ∧ w.heap.size ≤ bw := by
        have h1 := x1.2
        have h2 := x2.2
        have h3 := x4.2
        have h4 := hO2.lt
        have h5 := BR.size
        omega
      rw [hW5] at X5 B5
      rw [hbw] at X5
      have f5 : W5.frozen? ⟨bw, 0, none⟩ = false := by rw [← hW5, ← hbw]; simp only [World.frozen?, heap_alloc_new]; rfl
      have k5 := X5.1
      have y1 : Bx (W5.setCell ⟨bw, 0, none⟩ (wkV bo bl bk bw)) bl (.slice la m lc) := (x1.keep B5).grow (G := bw) (by omega) (World.grownBy.setC W5 bw 0 _)
      have y2 : Bx (W5.setCell ⟨bw, 0, none⟩ (wkV bo bl bk bw)) bk (.int .i64 kk) := (x2.keep B5).grow (G := bw) (by omega) (World.grownBy.setC W5 bw 0 _)
      have y4 : Bx (W5.setCell ⟨bw, 0, none⟩ (wkV bo bl bk bw)) bo (.slice (some ⟨G, 0, none⟩) k k) := (x4.keep B5).grow (G := bw) (by omega) (World.grownBy.setC W5 bw 0 _)
      have y5 : Bx (W5.setCell ⟨bw, 0, none⟩ (wkV bo bl bk bw)) bw (wkV bo bl bk bw) := Bx.set ⟨_, k5⟩ X5.2
      have O6 : OwnI (W5.setCell ⟨bw, 0, none⟩ (wkV bo bl bk bw)) G k (fun _ => -1) := (hO2.keep B5).apart (by omega)
      have B6 : Below w.heap.size w (W5.setCell ⟨bw, 0, none⟩ (wkV bo bl bk bw)) := (below_step BR B5).setCell (p := ⟨bw, 0, none⟩) (by show w.heap.size ≤ bw; omega) _
      obtain ⟨W6, hW6⟩ : ∃ W, W5.setCell ⟨bw, 0, none⟩ (wkV bo bl bk bw) = W := ⟨_, rfl⟩
      rw [hW6] at y1 y2 y4 y5 O6 B6
      have HE : DEnv W6 bo bl bk bw G k la m lc f kk := ⟨y4, y1, y2, y5, (unhide HA).below B6, fun x o c e hm0 => by
        obtain ⟨b', o', e', hlt', _⟩ := (unhide HA).2.2 hm0
        rw [e'] at e
        injection e with e
        injection e with e
        have := (unhide HLG).2.2.2
        omega, by have := unhide HLG; omega⟩
      have HC := hide (dfs_any bo bl bk bw G k la m lc f kk p hn hm hp H k p 0 (fun _ => -1) W6 (by omega) HE O6 hp rfl (Tre.Run.start _ _ _ _ _ _) (by decide))
      have k6 := y5.1
      have HE6 := hide HE
      have HB6 := hide B6
      have hGw := (unhide HLG).2.2.2
      unfold wkV at hW6 k6
      have x41 := x4.1
      clear hO hO2 hg x1 x2 x4 BR X5 B5 y1 y2 y4 y5 O6 B6 HE hwl HX1 HX2 HX4 HBA
      go_wp2_with fail
      refine (unhide HC).mono ?_
      rintro e w7 ⟨rfl, o1, hO7, hR7, hK7, hN7, hT7, hg7⟩
      have x7 := ((unhide HE6).o.grow (unhide HE6).a1.1 hg7).1
      have HFIN : Hid (RFar w k m f p kk (.returned (.slice (some ⟨G, 0, none⟩) k k)) w7) := by
        refine ⟨G, o1, hGw, rfl, hO7, hR7, fun e he ho => ?_, Below.grown (unhide HB6) hg7 (unhide HB6).size (fun q hq => by obtain rfl := Option.some.inj hq; exact hGw)⟩
        have key : ∀ v x, v < k → o1 v ≠ -1 → Tre.Inc (eA f) (eB f) e v x → o1 x ≠ -1 := fun v x hv h1 hi => by
          by_cases c : v = p
          · subst c; exact hT7 e x he ho hi
          · exact hN7 v hv h1 (by unfold updI; rw [if_neg c]) e x he ho hi
        exact ⟨fun h => key _ _ (H.lA e he) h (Or.inl ⟨rfl, rfl⟩), fun h => key _ _ (H.lB e he) h (Or.inr ⟨rfl, rfl⟩)⟩
      clear hO7 hR7 hK7 hN7 hT7 hg7 k5 k6 f5 hW5 hW6 hbw x41
      go_wp2
      go_ret
      exact unhide HFIN
end Go.Proofs.YtcmddkekidgkoaaDoor
