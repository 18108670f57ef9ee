/- The document's Run. -/
import Derived.Test.YteflciddadjilaaDoorP36
import Derived.Test.YteflciddadjilaaDoorH1
namespace Go.Proofs.YteflciddadjilaaDoor
open Go.RowKit Go.Sort Sim

/-- What the document's Run says. -/
def RunSays (w : World) (n : Nat) (f : Nat → T3) (r : Nat) (e : Ending) (w' : World) : Prop := ∃ v t, e = .returned v ∧ Done (qOf n f r) t ∧ OwnT 47 w' w.heap.size v (pcsT (sim (qOf n f r) t).ps) ∧ Below w.heap.size w w'

set_option maxHeartbeats 16000000 in
set_option maxRecDepth 100000 in
theorem rrun_any (a : Option Addr) (n c : Nat) (f : Nat → T3) (r : Nat) (w : World) (ha : TRow w a n c f) (hg : Good n f) (hr1 : 1 ≤ r) (hr6 : r ≤ 6) :
    Calls Tryd.prog 16 #[.slice a n c, .int .i64 (r : Int)] w (RunSays w n f r) := by
  obtain ⟨ti, hi, hz0, hz1, hz2⟩ := info_parts Tryd.infoPr
  have HI := hide hi
  have HZ := hide hz0
  have HA := hide ha
  have HG := hide hg
  have hn60 := hg.few
  have hac := ha.1
  have hac2 := ha.2.1
  have mk := make_ints n (by omega) w
  have O0 := hide (make_own w n)
  have B0 := hide (alloc_below w (.cells (lrow (fun _ => 0) n).toArray 3))
  obtain ⟨W0, hW0⟩ : ∃ W, w.alloc (.cells (lrow (fun _ => 0) n).toArray 3) = W := ⟨_, rfl⟩
  rw [hW0] at mk O0 B0
  obtain ⟨G, hG⟩ : ∃ G, w.heap.size = G := ⟨_, rfl⟩
  rw [hG] at mk O0
  have HGE := hide hG
  clear hi hz0 ha hg hW0 hG
  go_enter Tryd.func16, Tryd.ntmps16
  go_wp2_with fail
  clear mk
  go_loopw [22] (fun vi wr => ∃ m : Nat, vi = .int .i64 (m : Int) ∧ m ≤ n ∧ OwnI wr G n (fun j => if j < m then (f j).2.1 else 0) ∧ Below w.heap.size w wr) (fun vi _ => n - (intOf vi).toNat)
  case atStart => exact ⟨0, rfl, Nat.zero_le _, (unhide O0).congr (fun j _ => by simp), unhide B0⟩
  case round =>
    obtain ⟨m, rfl, hm, hO, hb⟩ := hrel
    by_cases hlt : m < n
    · obtain ⟨b, o, rfl, hbl, hc⟩ := (unhide HA).2.2 (by omega)
      have ⟨k0, k1, k2⟩ := hc m hlt
      rw [← hb.cell (p := ⟨b, o + m * 3, none⟩) hbl] at k0
      rw [← hb.cell (p := ⟨b, o + m * 3 + 1, none⟩) hbl] at k1
      rw [← hb.cell (p := ⟨b, o + m * 3 + 2, none⟩) hbl] at k2
      obtain ⟨⟨x, y, z⟩, hf⟩ : ∃ t, f m = t := ⟨_, rfl⟩
      rw [hf] at k0 k1 k2
      simp only at k0 k1 k2
      have e2 : (0 : Int) ≤ (m : Int) := by omega
      have e3 : (m : Int) < (n : Int) := by omega
      have hO1 := hO.keep (alloc_below wr (.cells #[.int .i64 x, .int .i64 y, .int .i64 z] 50))
      have ⟨q0, q1, q2⟩ := box3 (w := wr) (x := .int .i64 x) (y := .int .i64 y) (z := .int .i64 z) (T := 50) (Below.refl _ _)
      have g0 := hO1.cell hlt
      have g1 := hO1.free m
      have FIN := hide (hO1.set m y)
      have FB : Hid (Below w.heap.size w ((wr.alloc (.cells #[.int .i64 x, .int .i64 y, .int .i64 z] 50)).setCell ⟨G, m, none⟩ (.int .i64 y))) := (below_step hb (alloc_below _ _)).setCell (Nat.le_of_eq (unhide HGE)) _
      have HF := hide hf
      obtain ⟨x0, g0⟩ : ∃ u : Value, (wr.alloc (.cells #[.int .i64 x, .int .i64 y, .int .i64 z] 50)).cell? ⟨G, m, none⟩ = some u := ⟨_, g0⟩
      clear hc hb hf hO hO1
      go_wp2
      refine ⟨⟨m + 1, by go_num, hlt, (unhide FIN).congr (fun j hj => ?_), unhide FB⟩, by simp [intOf]; omega⟩
      unfold updI
      by_cases hjm : j = m
      · subst hjm
        rw [if_pos rfl, if_pos (Nat.lt_succ_self _), unhide HF]
      · rw [if_neg hjm]
        show (if j < m then _ else _) = _
        by_cases hj2 : j < m
        · rw [if_pos hj2, if_pos (by omega)]
        · rw [if_neg hj2, if_neg (by omega)]
    · obtain rfl : m = n := by omega
      have e3 : ¬ (m : Int) < (m : Int) := by omega
      have R0 : Hid (RInv w wr m f r G 0 (-1) (.slice none 0 0)) := by
        refine ⟨hb, Nat.le_of_eq (unhide HGE), hO.congr (fun j hj => ?_), OwnT.start _ _ _, Or.inl ⟨rfl, rfl, rfl⟩, ?_⟩
        · rw [if_pos hj]
          show (f j).2.1 = (((f j).2.1.toNat : Nat) : Int)
          have := (unhide HG).size j hj
          omega
        · show 0 + nsum (qOf m f r).S m ≤ _; omega
      clear hO hb O0 B0
      go_wp2_with fail
      go_loopw [8, 9, 10] (fun vo vn von wr => ∃ (t : Nat) (onv : Int), vn = .int .i64 (t : Int) ∧ von = .int .i64 onv ∧ RInv w wr m f r G t onv vo) (fun _ vn _ _ => 61000000001 - (intOf vn).toNat)
      case atStart => exact ⟨0, -1, rfl, rfl, unhide R0⟩
      case round =>
        obtain ⟨t, onv, rfl, rfl, RR⟩ := hrel
        have HR := hide RR
        have htm := RR.time (unhide HG)
        obtain ⟨wm, hwm⟩ : ∃ V, V = wr := ⟨_, rfl⟩
        clear RR R0
        go_wp2_with fail
        go_loopw [11, 12, 35] (fun vb vx vi wj => ∃ i : Nat, vi = .int .i64 (i : Int) ∧ vb = .int .i64 (ob (bst (qOf m f r) (sim (qOf m f r) t).lf t i)) ∧ vx = .int .i64 (nx (fun j => (f j).1) (t : Int) i) ∧ i ≤ m ∧ Below wr.heap.size wr wj) (fun _ _ vi _ => m - (intOf vi).toNat)
        case atStart => exact ⟨0, rfl, rfl, rfl, Nat.zero_le _, Below.refl _ _⟩
        case round =>
          obtain ⟨i, rfl, rfl, rfl, hi, bw⟩ := hrel
          have HBW := hide bw
          have bwR := below_step (unhide HR).bl bw
          by_cases hlt : i < m
          · obtain ⟨b, o, rfl, hbl, hc3⟩ := ((unhide HA).below bwR).2.2 (by omega)
            have ⟨k0, k1, k2⟩ := hc3 i hlt
            have hat := (unhide HG).at0 i hlt
            have g0 := ((unhide HR).left.keep bw).cell hlt
            have hbs := bst_spec (qOf m f r) (sim (qOf m f r) t).lf t i
            have hnx := nx_spec (fun j => (f j).1) (t : Int) (by omega) i
            have eN : nx (fun j => (f j).1) (t : Int) (i + 1) = if (t : Int) < (f i).1 ∧ (nx (fun j => (f j).1) (t : Int) i < 0 ∨ (f i).1 < nx (fun j => (f j).1) (t : Int) i) then (f i).1 else nx (fun j => (f j).1) (t : Int) i := rfl
            have eB : bst (qOf m f r) (sim (qOf m f r) t).lf t (i + 1) = if takes (qOf m f r) (sim (qOf m f r) t).lf t i (bst (qOf m f r) (sim (qOf m f r) t).lf t i) then some i else bst (qOf m f r) (sim (qOf m f r) t).lf t i := rfl
            have hAi : (qOf m f r).A i = (f i).1.toNat := rfl
            have hO := (unhide HR).left.keep bw
            have BT : ∀ k, k < i → Calls Tryd.prog 25 #[.slice (some ⟨b, o, none⟩) m c, .slice (some ⟨G, 0, none⟩) m m, .int .i64 (r : Int), .int .i64 (i : Int), .int .i64 (k : Int)] (wr.alloc (.cells #[.int .i64 (f i).1, .int .i64 (f i).2.1, .int .i64 (f i).2.2] 50)) fun e w' => e = .returned (.bool (decide (key (qOf m f r) (sim (qOf m f r) t).lf i < key (qOf m f r) (sim (qOf m f r) t).lf k))) ∧ Below (wr.alloc (.cells #[.int .i64 (f i).1, .int .i64 (f i).2.1, .int .i64 (f i).2.2] 50)).heap.size (wr.alloc (.cells #[.int .i64 (f i).1, .int .i64 (f i).2.1, .int .i64 (f i).2.2] 50)) w' := fun k hk => better_any _ m c f G r i k _ _ (((unhide HA).below bwR).below (alloc_below _ _)) (unhide HG) (hO.keep (alloc_below _ _)) hr1 hr6 hk hlt
            have HEN := hide eN
            have HEB := hide eB
            have HBT := hide BT
            have HBS := hide hbs
            obtain ⟨⟨x, y, z⟩, hf⟩ : ∃ t, f i = t := ⟨_, rfl⟩
            rw [hf] at k0 k1 k2 hat HEN HBT hAi
            simp only at k0 k1 k2 hat HEN HBT hAi
            obtain ⟨u, hu⟩ : ∃ u, (sim (qOf m f r) t).lf i = u := ⟨_, rfl⟩
            rw [hu] at g0
            have ⟨q0, q1, q2⟩ := box3 (w := wr) (x := .int .i64 x) (y := .int .i64 y) (z := .int .i64 z) (T := 50) (Below.refl _ _)
            have g0' := (hO.keep (alloc_below wr (.cells #[.int .i64 x, .int .i64 y, .int .i64 z] 50))).cell hlt
            rw [hu] at g0'
            have HFB := hide (below_step bw (alloc_below wr (.cells #[.int .i64 x, .int .i64 y, .int .i64 z] 50)))
            obtain ⟨N, hN⟩ : ∃ N, nx (fun j => (f j).1) (t : Int) i = N := ⟨_, rfl⟩
            rw [hN] at HEN hnx ⊢
            have e1 : (i : Int) < (m : Int) := by omega
            have e0 : (0 : Int) ≤ (i : Int) := by omega
            have HHF := hide hf
            have HHU := hide hu
            have HAI := hide hAi
            have hN0 : N = -1 ∨ (t : Int) < N := by rcases hnx with h | h; exact Or.inl h.1; exact Or.inr h.1
            clear eN eB BT hbs hc3 hf hu hnx hN bw bwR hO hAi
            by_cases hx : (t : Int) < x
            · have HTK : Hid (ob (bst (qOf m f r) (sim (qOf m f r) t).lf t (i + 1)) = ob (bst (qOf m f r) (sim (qOf m f r) t).lf t i)) := by
                show _ = _
                rw [unhide HEB, if_neg]
                unfold takes
                rw [unhide HAI, decide_eq_false (by omega : ¬ x.toNat ≤ t)]
                simp
              obtain ⟨B, hB⟩ : ∃ B, ob (bst (qOf m f r) (sim (qOf m f r) t).lf t i) = B := ⟨_, rfl⟩
              rw [hB] at HTK ⊢
              clear hB HEB HBT
              by_cases hn1 : N < 0
              · have HFN : Hid (nx (fun j => (f j).1) (t : Int) (i + 1) = x) := by show _ = _; rw [unhide HEN, if_pos ⟨hx, Or.inl hn1⟩]
                clear HEN
                go_wp2
                exact ⟨⟨i + 1, by go_num, by rw [unhide HTK], by rw [unhide HFN], hlt, unhide HFB⟩, by simp [intOf]; omega⟩
              · by_cases hn2 : x < N
                · have HFN : Hid (nx (fun j => (f j).1) (t : Int) (i + 1) = x) := by show _ = _; rw [unhide HEN, if_pos ⟨hx, Or.inr hn2⟩]
                  clear HEN
                  go_wp2
                  exact ⟨⟨i + 1, by go_num, by rw [unhide HTK], by rw [unhide HFN], hlt, unhide HFB⟩, by simp [intOf]; omega⟩
                · have HFN : Hid (nx (fun j => (f j).1) (t : Int) (i + 1) = N) := by show _ = _; rw [unhide HEN, if_neg (by omega)]
                  clear HEN
                  go_wp2
                  exact ⟨⟨i + 1, by go_num, by rw [unhide HTK], by rw [unhide HFN], hlt, unhide HFB⟩, by simp [intOf]; omega⟩
            · have HFN : Hid (nx (fun j => (f j).1) (t : Int) (i + 1) = N) := by show _ = _; rw [unhide HEN, if_neg (by omega)]
              clear HEN
              by_cases hu0 : 0 < u
              · rcases unhide HBS with ⟨eb, _⟩ | ⟨k, eb, BS⟩
                · have HTK : Hid (ob (bst (qOf m f r) (sim (qOf m f r) t).lf t (i + 1)) = (i : Int)) := by
                    show _ = _
                    rw [unhide HEB, eb, if_pos]
                    · rfl
                    · unfold takes
                      rw [unhide HAI, unhide HHU]
                      simp [hu0, show x.toNat ≤ t by omega]
                  rw [eb, show ob none = -1 from rfl]
                  clear HEB HBT HBS eb
                  go_wp2
                  exact ⟨⟨i + 1, by go_num, by rw [unhide HTK], by rw [unhide HFN], hlt, unhide HFB⟩, by simp [intOf]; omega⟩
                · have hki : k < i := BS.1
                  have hk0 : ¬ (k : Int) < 0 := by omega
                  have HB1 := hide (unhide HBT k hki)
                  have HTK : Hid (ob (bst (qOf m f r) (sim (qOf m f r) t).lf t (i + 1)) = if decide (key (qOf m f r) (sim (qOf m f r) t).lf i < key (qOf m f r) (sim (qOf m f r) t).lf k) = true then (i : Int) else (k : Int)) := by
                    show _ = _
                    rw [unhide HEB, eb]
                    have e : takes (qOf m f r) (sim (qOf m f r) t).lf t i (some k) = decide (key (qOf m f r) (sim (qOf m f r) t).lf i < key (qOf m f r) (sim (qOf m f r) t).lf k) := by
                      unfold takes
                      rw [unhide HAI, unhide HHU]
                      simp [hu0, show x.toNat ≤ t by omega]
                    rw [e]
                    split <;> rfl
                  rw [eb]
                  generalize decide (key (qOf m f r) (sim (qOf m f r) t).lf i < key (qOf m f r) (sim (qOf m f r) t).lf k) = s at *
                  rw [show ob (some k) = (k : Int) from rfl]
                  clear HEB HBT HBS eb BS
                  cases s with
                  | true =>
                    have HT2 : Hid (ob (bst (qOf m f r) (sim (qOf m f r) t).lf t (i + 1)) = (i : Int)) := by show _ = _; rw [unhide HTK]; rfl
                    clear HTK
                    go_wp2_with fail
                    refine (unhide HB1).mono ?_
                    rintro e w5 ⟨rfl, hb5⟩
                    have HF5 := hide (below_step (unhide HFB) hb5)
                    clear hb5 HB1 q0 q1 q2 g0 g0' k0 k1 k2
                    go_wp2
                    exact ⟨⟨i + 1, by go_num, by rw [unhide HT2], by rw [unhide HFN], hlt, unhide HF5⟩, by simp [intOf]; omega⟩
                  | false =>
                    have HT2 : Hid (ob (bst (qOf m f r) (sim (qOf m f r) t).lf t (i + 1)) = (k : Int)) := by show _ = _; rw [unhide HTK]; rfl
                    clear HTK
                    go_wp2_with fail
                    refine (unhide HB1).mono ?_
                    rintro e w5 ⟨rfl, hb5⟩
                    have HF5 := hide (below_step (unhide HFB) hb5)
                    clear hb5 HB1 q0 q1 q2 g0 g0' k0 k1 k2
                    go_wp2
                    exact ⟨⟨i + 1, by go_num, by rw [unhide HT2], by rw [unhide HFN], hlt, unhide HF5⟩, by simp [intOf]; omega⟩
              · have HTK : Hid (ob (bst (qOf m f r) (sim (qOf m f r) t).lf t (i + 1)) = ob (bst (qOf m f r) (sim (qOf m f r) t).lf t i)) := by
                  show _ = _
                  rw [unhide HEB, if_neg]
                  unfold takes
                  rw [unhide HHU, decide_eq_false (by omega : ¬ 0 < u)]
                  simp
                have hu1 : u = 0 := by omega
                subst hu1
                obtain ⟨B, hB⟩ : ∃ B, ob (bst (qOf m f r) (sim (qOf m f r) t).lf t i) = B := ⟨_, rfl⟩
                rw [hB] at HTK ⊢
                clear hB HEB HBT HBS
                go_wp2
                exact ⟨⟨i + 1, by go_num, by rw [unhide HTK], by rw [unhide HFN], hlt, unhide HFB⟩, by simp [intOf]; omega⟩
          · obtain rfl : i = m := by omega
            have e1 : ¬ (i : Int) < (i : Int) := by omega
            have RW := (unhide HR).keep bw
            have HRW := hide RW
            have htm2 := RW.time (unhide HG)
            have hbs := bst_spec (qOf i f r) (sim (qOf i f r) t).lf t i
            have hnx := nx_spec (fun j => (f j).1) (t : Int) (by omega) i
            have hps := ps_short (qOf i f r) t
            obtain ⟨N, hN⟩ : ∃ N, nx (fun j => (f j).1) (t : Int) i = N := ⟨_, rfl⟩
            rw [hN] at hnx ⊢
            have HNX := hide hnx
            have HBS := hide hbs
            have HTY : Hid ((47 : TypeId) ≠ 3) := by show _ ≠ _; decide
            have hNc : N = -1 ∨ (t : Int) < N := by rcases hnx with h | h; exact Or.inl h.1; exact Or.inr h.1
            clear hN hnx hbs bw
            rcases RW.on with ⟨o1, o2, o3⟩ | ⟨j0, qs, pa, pe', o1, o2, o3, o4, o5⟩
            · subst o1
              have hch : choice (qOf i f r) (sim (qOf i f r) t) t = bst (qOf i f r) (sim (qOf i f r) t).lf t i := choice_best (fun j hj _ => by rw [o3] at hj; cases hj)
              obtain ⟨ao, co, rfl, hto⟩ := RW.own.trow
              have hl0 : (pcsT (sim (qOf i f r) t).ps).length = 0 := by rw [pcsT_length, o2]; rfl
              rw [hl0] at hto HRW ⊢
              have hco := hto.1
              have hco2 := hto.2.1
              have HPS := hide o2
              clear hto hl0 o2 o3 RW
              rcases unhide HBS with ⟨eb, hno⟩ | ⟨j, eb, BS⟩
              · rw [eb] at hch ⊢
                have HCH := hide hch
                have HNO := hide hno
                rw [show ob none = -1 from rfl]
                clear hch eb hno HBS
                as_aux_lemma =>
                  by_cases hn1 : N < 0
                  · have HDN : Hid (Done (qOf i f r) t) := fun k hk => unhide HNO k hk (by
                      rcases unhide HNX with ⟨_, h⟩ | ⟨h, _, _⟩
                      · have h1 := h k hk
                        have h2 := ((unhide HG).at0 k hk).1
                        show (f k).1.toNat ≤ t
                        omega
                      · omega)
                    clear HNO hNc
                    go_wp2
                    go_ret
                    exact ⟨_, t, rfl, unhide HDN, (unhide HRW).own, (unhide HRW).bl⟩
                  · obtain ⟨x, rfl⟩ : ∃ x : Nat, N = (x : Int) := ⟨N.toNat, by omega⟩
                    have hxt : t < x := by omega
                    have FIN := hide ((unhide HRW).idle (unhide HG) (unhide HCH) hxt (by rcases unhide HNX with ⟨h, _⟩ | ⟨_, _, h⟩; omega; exact h) (by rcases unhide HNX with ⟨h, _⟩ | ⟨_, h, _⟩; omega; exact h))
                    have hxb := (unhide FIN).time (unhide HG)
                    clear HNO hNc
                    go_wp2
                    exact ⟨⟨x, _, rfl, rfl, unhide FIN⟩, by simp [intOf]; omega⟩
              · rw [eb] at hch ⊢
                rw [show ob (some j) = (j : Int) from rfl]
                as_aux_lemma =>
                  have hj := (left_pos hch).2
                  have hjp := (left_pos hch).1
                  have hjl := (unhide HRW).lf_le (unhide HG) (show j < i from hj)
                  have lj := (unhide HRW).left.cell (show j < i from hj)
                  have ljf := (unhide HRW).left.free j
                  obtain ⟨L, hLj⟩ : ∃ L, (sim (qOf i f r) t).lf j = L := ⟨_, rfl⟩
                  rw [hLj] at hjp hjl lj
                  have z1 : ¬ (j : Int) < 0 := by omega
                  have z2 : (j : Int) < (i : Int) := by have : j < i := hj; omega
                  have z3 : (0 : Int) ≤ (j : Int) := by omega
                  have z4 : IntKind.i64.wrap ((t : Int) + (L : Int)) = (t : Int) + (L : Int) := by rw [IntKind.wrap_i64]; omega
                  have HCHj := hide hch
                  have HLj := hide hLj
                  clear hch hLj
                  by_cases hn1 : N < 0
                  · have hA : ∀ k, k < i → (t : Int) < (f k).1 → ((t + L : Nat) : Int) ≤ (f k).1 := fun k hk hl => by
                      rcases unhide HNX with ⟨_, h⟩ | ⟨h, _, _⟩
                      · have := h k hk; omega
                      · omega
                    have HAA := hide hA
                    clear hA
                    have HET : Hid (((t + L : Nat) : Int) = ((t : Int) + (L : Int))) := by show _ = _; omega
                    have s1 : IntKind.i64.wrap (((t : Int) + (L : Int)) - (t : Int)) = (L : Int) := by rw [IntKind.wrap_i64]; omega
                    have s2 : IntKind.i64.wrap ((L : Int) - (L : Int)) = (L : Int) - (L : Int) := by rw [IntKind.wrap_i64]; omega
                    have d0 : 0 < L := by omega
                    have d1 : L ≤ L := by omega
                    have PLEN : Hid ((pcsT (sim (qOf i f r) t).ps).length = 0) := by show _ = _; rw [pcsT_length, unhide HPS]; rfl
                    have OT := (unhide HRW).own
                    have b7 := alloc_below wr (.cells #[.int .i64 (j : Int), .int .i64 (t : Int), .int .i64 ((t : Int) + (L : Int))] 47)
                    have O7 := OT.keep b7
                    have L7 := (unhide HRW).left.keep b7
                    have B7 := below_step (unhide HRW).bl b7
                    have HO7 := hide O7
                    have HL7 := hide L7
                    have HB7 := hide B7
                    have Q63 : Hid ((pcsT (sim (qOf i f r) t).ps).length + 1 ≤ maxLen) := by show _ ≤ _; rw [unhide PLEN]; unfold maxLen; omega
                    have Q24 : Hid (((pcsT (sim (qOf i f r) t).ps).length + 1) * 24 ≤ 140737488355328) := by show _ ≤ _; rw [unhide PLEN]; omega
                    have HJ : Hid (joinT (pcsT (sim (qOf i f r) t).ps) ((j : Int), (t : Int), ((t + L : Nat) : Int)) = pcsT (sim (qOf i f r) t).ps ++ [((j : Int), (t : Int), ((t : Int) + (L : Int)))]) := by
                      show _ = _
                      rw [unhide HPS, unhide HET]; rfl
                    have HD0 := hide d0
                    have HD1 := hide d1
                    have HJ0 : Hid (j < i) := hj
                    have HAPA := hide (O7.apart L7 (unhide HTY))
                    clear OT b7 O7 L7 B7 d0 d1
                    go_wp2_with (at_builtin; go_loud (refine wpList_append_lies _ rfl _ _ _ rfl w.heap.size 47 ti (.agg #[.int .i64 0, .int .i64 0, .int .i64 0]) 3 24 Tryd.underlying43 (unhide HI) (unhide HZ) hz1 hz2 rfl (by decide) _ (pcsT (sim (qOf i f r) t).ps).length (pcells (pcsT (sim (qOf i f r) t).ps)) rfl (unhide HO7) ⟨wr.heap.size, 0, none⟩ 1 1 (T3.cells ((j : Int), (t : Int), ((t : Int) + (L : Int)))) rfl rfl (news_three wr ((j : Int), (t : Int), ((t : Int) + (L : Int))) _) (cells_one _) (by decide) (unhide Q63) (unhide Q24) (unhide HB7).size (wr.heap.size + 1) (alloc_size _ _) ?_; intro g5 cap5 w5 own5 grow5 hat5 hlt5; have OW : OwnT 47 w5 w.heap.size (.slice (some ⟨g5, 0, none⟩) ((pcsT (sim (qOf i f r) t).ps).length + 1) cap5) (pcsT (sim (qOf i f r) t).ps ++ [((j : Int), (t : Int), ((t : Int) + (L : Int)))]) := (by unfold OwnT; rw [pcells_append, pcells_one, List.length_append]; exact own5); have L5 : OwnI w5 G i (fun j => ((sim (qOf i f r) t).lf j : Int)) := (by unfold OwnI; rw [grow5.block G (unhide HL7).lt (fun e => unhide HAPA e.symm)]; exact unhide HL7); have B5 := Below.grown (unhide HB7) grow5 (unhide HB7).size (fun k hk => (unhide HO7).row k hk); have c5 := L5.cell (unhide HJ0); have c5f := L5.free j; have FIN : Hid (RInv w (w5.setCell ⟨G, j, none⟩ (.int .i64 ((L : Int) - (L : Int)))) i f r G (t + L) (j : Int) (.slice (some ⟨g5, 0, none⟩) ((pcsT (sim (qOf i f r) t).ps).length + 1) cap5)) := (by refine (unhide HRW).serve (unhide HCHj) (unhide HD0) (by rw [unhide HLj]; exact unhide HD1) (unhide HAA) (B5.setCell (unhide HRW).gl _) (by rw [unhide HLj]; exact L5.set j _) ?_; rw [unhide HJ]; exact OW.other L5 (unhide HTY) j _); rw [unhide HLj] at c5; clear own5 grow5 hat5 hlt5 OW L5 B5))
                    have hxb := (unhide FIN).time (unhide HG)
                    refine ⟨⟨t + L, _, by rw [unhide HET], rfl, by have h := unhide FIN; rw [Int.sub_self] at h; exact h⟩, by have := unhide HD0; simp [intOf]; omega⟩
                  · by_cases hn2 : N < (t : Int) + (L : Int)
                    · obtain ⟨d, hd⟩ : ∃ d : Nat, N = (t : Int) + (d : Int) := ⟨(N - t).toNat, by omega⟩
                      have hA : ∀ k, k < i → (t : Int) < (f k).1 → ((t + d : Nat) : Int) ≤ (f k).1 := fun k hk hl => by
                        rcases unhide HNX with ⟨h, _⟩ | ⟨_, _, h⟩
                        · omega
                        · have := h k hk hl; omega
                      have HAA := hide hA
                      clear hA
                      have HET : Hid (((t + d : Nat) : Int) = N) := by show _ = _; omega
                      have s1 : IntKind.i64.wrap (N - (t : Int)) = (d : Int) := by rw [IntKind.wrap_i64]; omega
                      have s2 : IntKind.i64.wrap ((L : Int) - (d : Int)) = (L : Int) - (d : Int) := by rw [IntKind.wrap_i64]; omega
                      have d0 : 0 < d := by omega
                      have d1 : d ≤ L := by omega
                      have HND := hide hd
                      clear hd
                      have PLEN : Hid ((pcsT (sim (qOf i f r) t).ps).length = 0) := by show _ = _; rw [pcsT_length, unhide HPS]; rfl
                      have OT := (unhide HRW).own
                      have b7 := alloc_below wr (.cells #[.int .i64 (j : Int), .int .i64 (t : Int), .int .i64 N] 47)
                      have O7 := OT.keep b7
                      have L7 := (unhide HRW).left.keep b7
                      have B7 := below_step (unhide HRW).bl b7
                      have HO7 := hide O7
                      have HL7 := hide L7
                      have HB7 := hide B7
                      have Q63 : Hid ((pcsT (sim (qOf i f r) t).ps).length + 1 ≤ maxLen) := by show _ ≤ _; rw [unhide PLEN]; unfold maxLen; omega
                      have Q24 : Hid (((pcsT (sim (qOf i f r) t).ps).length + 1) * 24 ≤ 140737488355328) := by show _ ≤ _; rw [unhide PLEN]; omega
                      have HJ : Hid (joinT (pcsT (sim (qOf i f r) t).ps) ((j : Int), (t : Int), ((t + d : Nat) : Int)) = pcsT (sim (qOf i f r) t).ps ++ [((j : Int), (t : Int), N)]) := by
                        show _ = _
                        rw [unhide HPS, unhide HET]; rfl
                      have HD0 := hide d0
                      have HD1 := hide d1
                      have HJ0 : Hid (j < i) := hj
                      have HAPA := hide (O7.apart L7 (unhide HTY))
                      clear OT b7 O7 L7 B7 d0 d1
                      go_wp2_with (at_builtin; go_loud (refine wpList_append_lies _ rfl _ _ _ rfl w.heap.size 47 ti (.agg #[.int .i64 0, .int .i64 0, .int .i64 0]) 3 24 Tryd.underlying43 (unhide HI) (unhide HZ) hz1 hz2 rfl (by decide) _ (pcsT (sim (qOf i f r) t).ps).length (pcells (pcsT (sim (qOf i f r) t).ps)) rfl (unhide HO7) ⟨wr.heap.size, 0, none⟩ 1 1 (T3.cells ((j : Int), (t : Int), N)) rfl rfl (news_three wr ((j : Int), (t : Int), N) _) (cells_one _) (by decide) (unhide Q63) (unhide Q24) (unhide HB7).size (wr.heap.size + 1) (alloc_size _ _) ?_; intro g5 cap5 w5 own5 grow5 hat5 hlt5; have OW : OwnT 47 w5 w.heap.size (.slice (some ⟨g5, 0, none⟩) ((pcsT (sim (qOf i f r) t).ps).length + 1) cap5) (pcsT (sim (qOf i f r) t).ps ++ [((j : Int), (t : Int), N)]) := (by unfold OwnT; rw [pcells_append, pcells_one, List.length_append]; exact own5); have L5 : OwnI w5 G i (fun j => ((sim (qOf i f r) t).lf j : Int)) := (by unfold OwnI; rw [grow5.block G (unhide HL7).lt (fun e => unhide HAPA e.symm)]; exact unhide HL7); have B5 := Below.grown (unhide HB7) grow5 (unhide HB7).size (fun k hk => (unhide HO7).row k hk); have c5 := L5.cell (unhide HJ0); have c5f := L5.free j; have FIN : Hid (RInv w (w5.setCell ⟨G, j, none⟩ (.int .i64 ((L : Int) - (d : Int)))) i f r G (t + d) (j : Int) (.slice (some ⟨g5, 0, none⟩) ((pcsT (sim (qOf i f r) t).ps).length + 1) cap5)) := (by refine (unhide HRW).serve (unhide HCHj) (unhide HD0) (by rw [unhide HLj]; exact unhide HD1) (unhide HAA) (B5.setCell (unhide HRW).gl _) (by rw [unhide HLj]; exact L5.set j _) ?_; rw [unhide HJ]; exact OW.other L5 (unhide HTY) j _); rw [unhide HLj] at c5; clear own5 grow5 hat5 hlt5 OW L5 B5))
                      have hxb := (unhide FIN).time (unhide HG)
                      refine ⟨⟨t + d, _, by rw [unhide HET], rfl, by exact unhide FIN⟩, by have := unhide HD0; have hnd := unhide HND; simp [intOf]; omega⟩
                    · have hA : ∀ k, k < i → (t : Int) < (f k).1 → ((t + L : Nat) : Int) ≤ (f k).1 := fun k hk hl => by
                        rcases unhide HNX with ⟨h, _⟩ | ⟨_, _, h⟩
                        · omega
                        · have := h k hk hl; omega
                      have HAA := hide hA
                      clear hA
                      have HET : Hid (((t + L : Nat) : Int) = ((t : Int) + (L : Int))) := by show _ = _; omega
                      have s1 : IntKind.i64.wrap (((t : Int) + (L : Int)) - (t : Int)) = (L : Int) := by rw [IntKind.wrap_i64]; omega
                      have s2 : IntKind.i64.wrap ((L : Int) - (L : Int)) = (L : Int) - (L : Int) := by rw [IntKind.wrap_i64]; omega
                      have d0 : 0 < L := by omega
                      have d1 : L ≤ L := by omega
                      have PLEN : Hid ((pcsT (sim (qOf i f r) t).ps).length = 0) := by show _ = _; rw [pcsT_length, unhide HPS]; rfl
                      have OT := (unhide HRW).own
                      have b7 := alloc_below wr (.cells #[.int .i64 (j : Int), .int .i64 (t : Int), .int .i64 ((t : Int) + (L : Int))] 47)
                      have O7 := OT.keep b7
                      have L7 := (unhide HRW).left.keep b7
                      have B7 := below_step (unhide HRW).bl b7
                      have HO7 := hide O7
                      have HL7 := hide L7
                      have HB7 := hide B7
                      have Q63 : Hid ((pcsT (sim (qOf i f r) t).ps).length + 1 ≤ maxLen) := by show _ ≤ _; rw [unhide PLEN]; unfold maxLen; omega
                      have Q24 : Hid (((pcsT (sim (qOf i f r) t).ps).length + 1) * 24 ≤ 140737488355328) := by show _ ≤ _; rw [unhide PLEN]; omega
                      have HJ : Hid (joinT (pcsT (sim (qOf i f r) t).ps) ((j : Int), (t : Int), ((t + L : Nat) : Int)) = pcsT (sim (qOf i f r) t).ps ++ [((j : Int), (t : Int), ((t : Int) + (L : Int)))]) := by
                        show _ = _
                        rw [unhide HPS, unhide HET]; rfl
                      have HD0 := hide d0
                      have HD1 := hide d1
                      have HJ0 : Hid (j < i) := hj
                      have HAPA := hide (O7.apart L7 (unhide HTY))
                      clear OT b7 O7 L7 B7 d0 d1
                      go_wp2_with (at_builtin; go_loud (refine wpList_append_lies _ rfl _ _ _ rfl w.heap.size 47 ti (.agg #[.int .i64 0, .int .i64 0, .int .i64 0]) 3 24 Tryd.underlying43 (unhide HI) (unhide HZ) hz1 hz2 rfl (by decide) _ (pcsT (sim (qOf i f r) t).ps).length (pcells (pcsT (sim (qOf i f r) t).ps)) rfl (unhide HO7) ⟨wr.heap.size, 0, none⟩ 1 1 (T3.cells ((j : Int), (t : Int), ((t : Int) + (L : Int)))) rfl rfl (news_three wr ((j : Int), (t : Int), ((t : Int) + (L : Int))) _) (cells_one _) (by decide) (unhide Q63) (unhide Q24) (unhide HB7).size (wr.heap.size + 1) (alloc_size _ _) ?_; intro g5 cap5 w5 own5 grow5 hat5 hlt5; have OW : OwnT 47 w5 w.heap.size (.slice (some ⟨g5, 0, none⟩) ((pcsT (sim (qOf i f r) t).ps).length + 1) cap5) (pcsT (sim (qOf i f r) t).ps ++ [((j : Int), (t : Int), ((t : Int) + (L : Int)))]) := (by unfold OwnT; rw [pcells_append, pcells_one, List.length_append]; exact own5); have L5 : OwnI w5 G i (fun j => ((sim (qOf i f r) t).lf j : Int)) := (by unfold OwnI; rw [grow5.block G (unhide HL7).lt (fun e => unhide HAPA e.symm)]; exact unhide HL7); have B5 := Below.grown (unhide HB7) grow5 (unhide HB7).size (fun k hk => (unhide HO7).row k hk); have c5 := L5.cell (unhide HJ0); have c5f := L5.free j; have FIN : Hid (RInv w (w5.setCell ⟨G, j, none⟩ (.int .i64 ((L : Int) - (L : Int)))) i f r G (t + L) (j : Int) (.slice (some ⟨g5, 0, none⟩) ((pcsT (sim (qOf i f r) t).ps).length + 1) cap5)) := (by refine (unhide HRW).serve (unhide HCHj) (unhide HD0) (by rw [unhide HLj]; exact unhide HD1) (unhide HAA) (B5.setCell (unhide HRW).gl _) (by rw [unhide HLj]; exact L5.set j _) ?_; rw [unhide HJ]; exact OW.other L5 (unhide HTY) j _); rw [unhide HLj] at c5; clear own5 grow5 hat5 hlt5 OW L5 B5))
                      have hxb := (unhide FIN).time (unhide HG)
                      refine ⟨⟨t + L, _, by rw [unhide HET], rfl, by have h := unhide FIN; rw [Int.sub_self] at h; exact h⟩, by have := unhide HD0; simp [intOf]; omega⟩
            · subst o1
              obtain ⟨p, hp⟩ : ∃ p, qs.length = p := ⟨_, rfl⟩
              obtain ⟨ln, hln⟩ : ∃ l, p + 1 = l := ⟨_, rfl⟩
              have hlp : (pcsT (sim (qOf i f r) t).ps).length = ln := by rw [pcsT_length, o3, ← hln, ← hp]; simp
              have HF := RW.own.form (by omega)
              obtain ⟨gp, cp, rfl, hp1, hp2, hp3, hp4, hp5, hp6⟩ := HF
              rw [hlp] at hp1 hp6 HRW ⊢
              have HC6 := hide (hp6 p (by omega))
              have hlast : (pcsT (sim (qOf i f r) t).ps)[p]! = ((j0 : Int), (pa : Int), (pe' : Int)) := by
                rw [o3, pcsT_snoc]
                have : (pcsT qs).length = p := by rw [pcsT_length]; exact hp
                simp [this, pcT]
              rw [hlast] at HC6
              simp only at HC6
              obtain ⟨cj, ca, ce⟩ := unhide HC6
              have cf := hp5 (p * 3 + 2)
              have lc := RW.left.cell o2
              have hql : p ≤ 61000000000 := by have := pcsT_length (sim (qOf i f r) t).ps; omega
              have w1 : IntKind.i64.wrap ((ln : Int) - 1) = (p : Int) := by rw [IntKind.wrap_i64]; omega
              have w2 : (0 : Int) < (ln : Int) := by omega
              have w3 : (p : Int) < (ln : Int) := by omega
              have w5 : ¬ (j0 : Int) < 0 := by omega
              have w6 : (j0 : Int) < (i : Int) := by omega
              have HPS := hide o3
              have HLP := hide hlp
              have HPQ := hide hp
              have HLN := hide hln
              have H4 := hide o4
              have H5 := hide o5
              have HO2 := hide o2
              have HP3 := hide hp3
              have HQL := hide hql
              clear hp hln hlp hp3 hp4 hp5 hp6 hlast HC6 o3 o4 o5 o2 ca hql RW
              obtain ⟨L0, hL0⟩ : ∃ L, (sim (qOf i f r) t).lf j0 = L := ⟨_, rfl⟩
              rw [hL0] at lc H4
              have HL0 := hide hL0
              clear hL0
              by_cases hL : 0 < L0
              · obtain ⟨rfl, on1⟩ := unhide H4 hL
                have HON := hide on1
                clear H4 on1
                by_cases h4 : r ≤ 4
                · have hch : choice (qOf i f r) (sim (qOf i f r) pe') pe' = some j0 := by
                    unfold choice
                    rw [unhide HON]
                    show (if r ≤ 4 ∧ 0 < (sim (qOf i f r) pe').lf j0 then _ else _) = _
                    rw [if_pos ⟨h4, by rw [unhide HL0]; exact hL⟩]
                  have h4' : (r : Int) ≤ 4 := by omega
                  obtain ⟨Bx, hBx⟩ : ∃ B, ob (bst (qOf i f r) (sim (qOf i f r) pe').lf pe' i) = B := ⟨_, rfl⟩
                  rw [hBx]
                  clear hBx HBS
                  as_aux_lemma =>
                    have hj := (left_pos hch).2
                    have hjp := (left_pos hch).1
                    have hjl := (unhide HRW).lf_le (unhide HG) (show j0 < i from hj)
                    have lj := (unhide HRW).left.cell (show j0 < i from hj)
                    have ljf := (unhide HRW).left.free j0
                    obtain ⟨L, hLj⟩ : ∃ L, (sim (qOf i f r) pe').lf j0 = L := ⟨_, rfl⟩
                    rw [hLj] at hjp hjl lj
                    have hLL : L = L0 := hLj.symm.trans (unhide HL0)
                    subst hLL
                    clear lj hL
                    have z1 : ¬ (j0 : Int) < 0 := by omega
                    have z2 : (j0 : Int) < (i : Int) := by have : j0 < i := hj; omega
                    have z3 : (0 : Int) ≤ (j0 : Int) := by omega
                    have z4 : IntKind.i64.wrap ((pe' : Int) + (L : Int)) = (pe' : Int) + (L : Int) := by rw [IntKind.wrap_i64]; omega
                    have HCHj := hide hch
                    have HLj := hide hLj
                    clear hch hLj
                    by_cases hn1 : N < 0
                    · have hA : ∀ k, k < i → (pe' : Int) < (f k).1 → ((pe' + L : Nat) : Int) ≤ (f k).1 := fun k hk hl => by
                        rcases unhide HNX with ⟨_, h⟩ | ⟨h, _, _⟩
                        · have := h k hk; omega
                        · omega
                      have HAA := hide hA
                      clear hA
                      have HET : Hid (((pe' + L : Nat) : Int) = ((pe' : Int) + (L : Int))) := by show _ = _; omega
                      have s1 : IntKind.i64.wrap (((pe' : Int) + (L : Int)) - (pe' : Int)) = (L : Int) := by rw [IntKind.wrap_i64]; omega
                      have s2 : IntKind.i64.wrap ((L : Int) - (L : Int)) = (L : Int) - (L : Int) := by rw [IntKind.wrap_i64]; omega
                      have d0 : 0 < L := by omega
                      have d1 : L ≤ L := by omega
                      have OT := (unhide HRW).own
                      rw [unhide HPS, pcsT_snoc] at OT
                      have OT2 : OwnT 47 wr w.heap.size (.slice (some ⟨gp, 0, none⟩) (pcsT qs ++ [pcT (j0, pa, pe')]).length cp) (pcsT qs ++ [pcT (j0, pa, pe')]) := by
                        have e : (pcsT qs ++ [pcT (j0, pa, pe')]).length = ln := by rw [List.length_append, pcsT_length, unhide HPQ]; exact unhide HLN
                        rw [e]; exact OT
                      have NT := OT2.last (z := ((pe' : Int) + (L : Int)))
                      have e9 : (pcsT qs ++ [pcT (j0, pa, pe')]).length = ln := by rw [List.length_append, pcsT_length, unhide HPQ]; exact unhide HLN
                      rw [e9, pcsT_length, unhide HPQ] at NT
                      have gne : G ≠ gp := fun e => (unhide HRW).own.apart (unhide HRW).left (unhide HTY) (by rw [e]; rfl)
                      have LN : OwnI (wr.setCell ⟨gp, p * 3 + 2, none⟩ (.int .i64 ((pe' : Int) + (L : Int)))) G i (fun j => ((sim (qOf i f r) pe').lf j : Int)) := (unhide HRW).left.other gne _
                      have BN := (unhide HRW).bl.setCell (p := ⟨gp, p * 3 + 2, none⟩) (unhide HP3) (.int .i64 ((pe' : Int) + (L : Int)))
                      obtain ⟨W6, hW6⟩ : ∃ V, wr.setCell ⟨gp, p * 3 + 2, none⟩ (.int .i64 ((pe' : Int) + (L : Int))) = V := ⟨_, rfl⟩
                      rw [hW6] at NT LN BN
                      have g5 := LN.cell (show j0 < i from hj)
                      rw [unhide HLj] at g5
                      have g5f := LN.free j0
                      have FIN : Hid (RInv w (W6.setCell ⟨G, j0, none⟩ (.int .i64 ((L : Int) - (L : Int)))) i f r G (pe' + L) (j0 : Int) (.slice (some ⟨gp, 0, none⟩) ln cp)) := by
                        refine (unhide HRW).serve (unhide HCHj) d0 (by rw [unhide HLj]; exact d1) (unhide HAA) (BN.setCell (unhide HRW).gl _) (by rw [unhide HLj]; exact LN.set j0 _) ?_
                        have OX := NT.other LN (unhide HTY) j0 (.int .i64 ((L : Int) - (L : Int)))
                        have ej : joinT (pcsT (sim (qOf i f r) pe').ps) ((j0 : Int), (pe' : Int), ((pe' + L : Nat) : Int)) = pcsT qs ++ [((j0 : Int), (pa : Int), ((pe' : Int) + (L : Int)))] := by
                          rw [unhide HPS, pcsT_snoc, joinT_last, if_pos ⟨rfl, rfl⟩, unhide HET]
                          rfl
                        rw [ej]
                        exact OX
                      have hxb := (unhide FIN).time (unhide HG)
                      clear OT OT2 NT LN BN e9 gne HCHj HNX
                      go_wp2
                      refine ⟨⟨pe' + L, _, by rw [unhide HET], rfl, by have h := unhide FIN; rw [Int.sub_self] at h; exact h⟩, by simp [intOf]; omega⟩
                    · by_cases hn2 : N < (pe' : Int) + (L : Int)
                      · obtain ⟨d, hd⟩ : ∃ d : Nat, N = (pe' : Int) + (d : Int) := ⟨(N - pe').toNat, by omega⟩
                        have hA : ∀ k, k < i → (pe' : Int) < (f k).1 → ((pe' + d : Nat) : Int) ≤ (f k).1 := fun k hk hl => by
                          rcases unhide HNX with ⟨h, _⟩ | ⟨_, _, h⟩
                          · omega
                          · have := h k hk hl; omega
                        have HAA := hide hA
                        clear hA
                        have HET : Hid (((pe' + d : Nat) : Int) = N) := by show _ = _; omega
                        have s1 : IntKind.i64.wrap (N - (pe' : Int)) = (d : Int) := by rw [IntKind.wrap_i64]; omega
                        have s2 : IntKind.i64.wrap ((L : Int) - (d : Int)) = (L : Int) - (d : Int) := by rw [IntKind.wrap_i64]; omega
                        have d0 : 0 < d := by omega
                        have d1 : d ≤ L := by omega
                        have HND := hide hd
                        clear hd
                        have OT := (unhide HRW).own
                        rw [unhide HPS, pcsT_snoc] at OT
                        have OT2 : OwnT 47 wr w.heap.size (.slice (some ⟨gp, 0, none⟩) (pcsT qs ++ [pcT (j0, pa, pe')]).length cp) (pcsT qs ++ [pcT (j0, pa, pe')]) := by
                          have e : (pcsT qs ++ [pcT (j0, pa, pe')]).length = ln := by rw [List.length_append, pcsT_length, unhide HPQ]; exact unhide HLN
                          rw [e]; exact OT
                        have NT := OT2.last (z := N)
                        have e9 : (pcsT qs ++ [pcT (j0, pa, pe')]).length = ln := by rw [List.length_append, pcsT_length, unhide HPQ]; exact unhide HLN
                        rw [e9, pcsT_length, unhide HPQ] at NT
                        have gne : G ≠ gp := fun e => (unhide HRW).own.apart (unhide HRW).left (unhide HTY) (by rw [e]; rfl)
                        have LN : OwnI (wr.setCell ⟨gp, p * 3 + 2, none⟩ (.int .i64 N)) G i (fun j => ((sim (qOf i f r) pe').lf j : Int)) := (unhide HRW).left.other gne _
                        have BN := (unhide HRW).bl.setCell (p := ⟨gp, p * 3 + 2, none⟩) (unhide HP3) (.int .i64 N)
                        obtain ⟨W6, hW6⟩ : ∃ V, wr.setCell ⟨gp, p * 3 + 2, none⟩ (.int .i64 N) = V := ⟨_, rfl⟩
                        rw [hW6] at NT LN BN
                        have g5 := LN.cell (show j0 < i from hj)
                        rw [unhide HLj] at g5
                        have g5f := LN.free j0
                        have FIN : Hid (RInv w (W6.setCell ⟨G, j0, none⟩ (.int .i64 ((L : Int) - (d : Int)))) i f r G (pe' + d) (j0 : Int) (.slice (some ⟨gp, 0, none⟩) ln cp)) := by
                          refine (unhide HRW).serve (unhide HCHj) d0 (by rw [unhide HLj]; exact d1) (unhide HAA) (BN.setCell (unhide HRW).gl _) (by rw [unhide HLj]; exact LN.set j0 _) ?_
                          have OX := NT.other LN (unhide HTY) j0 (.int .i64 ((L : Int) - (d : Int)))
                          have ej : joinT (pcsT (sim (qOf i f r) pe').ps) ((j0 : Int), (pe' : Int), ((pe' + d : Nat) : Int)) = pcsT qs ++ [((j0 : Int), (pa : Int), N)] := by
                            rw [unhide HPS, pcsT_snoc, joinT_last, if_pos ⟨rfl, rfl⟩, unhide HET]
                            rfl
                          rw [ej]
                          exact OX
                        have hxb := (unhide FIN).time (unhide HG)
                        clear OT OT2 NT LN BN e9 gne HCHj HNX
                        go_wp2
                        refine ⟨⟨pe' + d, _, by rw [unhide HET], rfl, by exact unhide FIN⟩, by have hnd := unhide HND; simp [intOf]; omega⟩
                      · have hA : ∀ k, k < i → (pe' : Int) < (f k).1 → ((pe' + L : Nat) : Int) ≤ (f k).1 := fun k hk hl => by
                          rcases unhide HNX with ⟨h, _⟩ | ⟨_, _, h⟩
                          · omega
                          · have := h k hk hl; omega
                        have HAA := hide hA
                        clear hA
                        have HET : Hid (((pe' + L : Nat) : Int) = ((pe' : Int) + (L : Int))) := by show _ = _; omega
                        have s1 : IntKind.i64.wrap (((pe' : Int) + (L : Int)) - (pe' : Int)) = (L : Int) := by rw [IntKind.wrap_i64]; omega
                        have s2 : IntKind.i64.wrap ((L : Int) - (L : Int)) = (L : Int) - (L : Int) := by rw [IntKind.wrap_i64]; omega
                        have d0 : 0 < L := by omega
                        have d1 : L ≤ L := by omega
                        have OT := (unhide HRW).own
                        rw [unhide HPS, pcsT_snoc] at OT
                        have OT2 : OwnT 47 wr w.heap.size (.slice (some ⟨gp, 0, none⟩) (pcsT qs ++ [pcT (j0, pa, pe')]).length cp) (pcsT qs ++ [pcT (j0, pa, pe')]) := by
                          have e : (pcsT qs ++ [pcT (j0, pa, pe')]).length = ln := by rw [List.length_append, pcsT_length, unhide HPQ]; exact unhide HLN
                          rw [e]; exact OT
                        have NT := OT2.last (z := ((pe' : Int) + (L : Int)))
                        have e9 : (pcsT qs ++ [pcT (j0, pa, pe')]).length = ln := by rw [List.length_append, pcsT_length, unhide HPQ]; exact unhide HLN
                        rw [e9, pcsT_length, unhide HPQ] at NT
                        have gne : G ≠ gp := fun e => (unhide HRW).own.apart (unhide HRW).left (unhide HTY) (by rw [e]; rfl)
                        have LN : OwnI (wr.setCell ⟨gp, p * 3 + 2, none⟩ (.int .i64 ((pe' : Int) + (L : Int)))) G i (fun j => ((sim (qOf i f r) pe').lf j : Int)) := (unhide HRW).left.other gne _
                        have BN := (unhide HRW).bl.setCell (p := ⟨gp, p * 3 + 2, none⟩) (unhide HP3) (.int .i64 ((pe' : Int) + (L : Int)))
                        obtain ⟨W6, hW6⟩ : ∃ V, wr.setCell ⟨gp, p * 3 + 2, none⟩ (.int .i64 ((pe' : Int) + (L : Int))) = V := ⟨_, rfl⟩
                        rw [hW6] at NT LN BN
                        have g5 := LN.cell (show j0 < i from hj)
                        rw [unhide HLj] at g5
                        have g5f := LN.free j0
                        have FIN : Hid (RInv w (W6.setCell ⟨G, j0, none⟩ (.int .i64 ((L : Int) - (L : Int)))) i f r G (pe' + L) (j0 : Int) (.slice (some ⟨gp, 0, none⟩) ln cp)) := by
                          refine (unhide HRW).serve (unhide HCHj) d0 (by rw [unhide HLj]; exact d1) (unhide HAA) (BN.setCell (unhide HRW).gl _) (by rw [unhide HLj]; exact LN.set j0 _) ?_
                          have OX := NT.other LN (unhide HTY) j0 (.int .i64 ((L : Int) - (L : Int)))
                          have ej : joinT (pcsT (sim (qOf i f r) pe').ps) ((j0 : Int), (pe' : Int), ((pe' + L : Nat) : Int)) = pcsT qs ++ [((j0 : Int), (pa : Int), ((pe' : Int) + (L : Int)))] := by
                            rw [unhide HPS, pcsT_snoc, joinT_last, if_pos ⟨rfl, rfl⟩, unhide HET]
                            rfl
                          rw [ej]
                          exact OX
                        have hxb := (unhide FIN).time (unhide HG)
                        clear OT OT2 NT LN BN e9 gne HCHj HNX
                        go_wp2
                        refine ⟨⟨pe' + L, _, by rw [unhide HET], rfl, by have h := unhide FIN; rw [Int.sub_self] at h; exact h⟩, by simp [intOf]; omega⟩
                · have hch : choice (qOf i f r) (sim (qOf i f r) pe') pe' = bst (qOf i f r) (sim (qOf i f r) pe').lf pe' i := choice_best (fun _ _ h => absurd h h4)
                  have h4' : ¬ (r : Int) ≤ 4 := by omega
                  rcases unhide HBS with ⟨eb, hno⟩ | ⟨j, eb, BS⟩
                  · exact absurd (hno j0 (unhide HO2) (by have := (fresh2 (q := (qOf i f r)) pe').2 j0 (unhide HON); omega)) (by have := unhide HL0; omega)
                  · rw [eb] at hch ⊢
                    rw [show ob (some j) = (j : Int) from rfl]
                    by_cases hjj : j = j0
                    · subst hjj
                      as_aux_lemma =>
                        have hj := (left_pos hch).2
                        have hjp := (left_pos hch).1
                        have hjl := (unhide HRW).lf_le (unhide HG) (show j < i from hj)
                        have lj := (unhide HRW).left.cell (show j < i from hj)
                        have ljf := (unhide HRW).left.free j
                        obtain ⟨L, hLj⟩ : ∃ L, (sim (qOf i f r) pe').lf j = L := ⟨_, rfl⟩
                        rw [hLj] at hjp hjl lj
                        have hLL : L = L0 := hLj.symm.trans (unhide HL0)
                        subst hLL
                        clear lj hL
                        have z1 : ¬ (j : Int) < 0 := by omega
                        have z2 : (j : Int) < (i : Int) := by have : j < i := hj; omega
                        have z3 : (0 : Int) ≤ (j : Int) := by omega
                        have z4 : IntKind.i64.wrap ((pe' : Int) + (L : Int)) = (pe' : Int) + (L : Int) := by rw [IntKind.wrap_i64]; omega
                        have HCHj := hide hch
                        have HLj := hide hLj
                        clear hch hLj
                        by_cases hn1 : N < 0
                        · have hA : ∀ k, k < i → (pe' : Int) < (f k).1 → ((pe' + L : Nat) : Int) ≤ (f k).1 := fun k hk hl => by
                            rcases unhide HNX with ⟨_, h⟩ | ⟨h, _, _⟩
                            · have := h k hk; omega
                            · omega
                          have HAA := hide hA
                          clear hA
                          have HET : Hid (((pe' + L : Nat) : Int) = ((pe' : Int) + (L : Int))) := by show _ = _; omega
                          have s1 : IntKind.i64.wrap (((pe' : Int) + (L : Int)) - (pe' : Int)) = (L : Int) := by rw [IntKind.wrap_i64]; omega
                          have s2 : IntKind.i64.wrap ((L : Int) - (L : Int)) = (L : Int) - (L : Int) := by rw [IntKind.wrap_i64]; omega
                          have d0 : 0 < L := by omega
                          have d1 : L ≤ L := by omega
                          have OT := (unhide HRW).own
                          rw [unhide HPS, pcsT_snoc] at OT
                          have OT2 : OwnT 47 wr w.heap.size (.slice (some ⟨gp, 0, none⟩) (pcsT qs ++ [pcT (j, pa, pe')]).length cp) (pcsT qs ++ [pcT (j, pa, pe')]) := by
                            have e : (pcsT qs ++ [pcT (j, pa, pe')]).length = ln := by rw [List.length_append, pcsT_length, unhide HPQ]; exact unhide HLN
                            rw [e]; exact OT
                          have NT := OT2.last (z := ((pe' : Int) + (L : Int)))
                          have e9 : (pcsT qs ++ [pcT (j, pa, pe')]).length = ln := by rw [List.length_append, pcsT_length, unhide HPQ]; exact unhide HLN
                          rw [e9, pcsT_length, unhide HPQ] at NT
                          have gne : G ≠ gp := fun e => (unhide HRW).own.apart (unhide HRW).left (unhide HTY) (by rw [e]; rfl)
                          have LN : OwnI (wr.setCell ⟨gp, p * 3 + 2, none⟩ (.int .i64 ((pe' : Int) + (L : Int)))) G i (fun j => ((sim (qOf i f r) pe').lf j : Int)) := (unhide HRW).left.other gne _
                          have BN := (unhide HRW).bl.setCell (p := ⟨gp, p * 3 + 2, none⟩) (unhide HP3) (.int .i64 ((pe' : Int) + (L : Int)))
                          obtain ⟨W6, hW6⟩ : ∃ V, wr.setCell ⟨gp, p * 3 + 2, none⟩ (.int .i64 ((pe' : Int) + (L : Int))) = V := ⟨_, rfl⟩
                          rw [hW6] at NT LN BN
                          have g5 := LN.cell (show j < i from hj)
                          rw [unhide HLj] at g5
                          have g5f := LN.free j
                          have FIN : Hid (RInv w (W6.setCell ⟨G, j, none⟩ (.int .i64 ((L : Int) - (L : Int)))) i f r G (pe' + L) (j : Int) (.slice (some ⟨gp, 0, none⟩) ln cp)) := by
                            refine (unhide HRW).serve (unhide HCHj) d0 (by rw [unhide HLj]; exact d1) (unhide HAA) (BN.setCell (unhide HRW).gl _) (by rw [unhide HLj]; exact LN.set j _) ?_
                            have OX := NT.other LN (unhide HTY) j (.int .i64 ((L : Int) - (L : Int)))
                            have ej : joinT (pcsT (sim (qOf i f r) pe').ps) ((j : Int), (pe' : Int), ((pe' + L : Nat) : Int)) = pcsT qs ++ [((j : Int), (pa : Int), ((pe' : Int) + (L : Int)))] := by
                              rw [unhide HPS, pcsT_snoc, joinT_last, if_pos ⟨rfl, rfl⟩, unhide HET]
                              rfl
                            rw [ej]
                            exact OX
                          have hxb := (unhide FIN).time (unhide HG)
                          clear OT OT2 NT LN BN e9 gne HCHj HNX
                          go_wp2
                          refine ⟨⟨pe' + L, _, by rw [unhide HET], rfl, by have h := unhide FIN; rw [Int.sub_self] at h; exact h⟩, by simp [intOf]; omega⟩
                        · by_cases hn2 : N < (pe' : Int) + (L : Int)
                          · obtain ⟨d, hd⟩ : ∃ d : Nat, N = (pe' : Int) + (d : Int) := ⟨(N - pe').toNat, by omega⟩
                            have hA : ∀ k, k < i → (pe' : Int) < (f k).1 → ((pe' + d : Nat) : Int) ≤ (f k).1 := fun k hk hl => by
                              rcases unhide HNX with ⟨h, _⟩ | ⟨_, _, h⟩
                              · omega
                              · have := h k hk hl; omega
                            have HAA := hide hA
                            clear hA
                            have HET : Hid (((pe' + d : Nat) : Int) = N) := by show _ = _; omega
                            have s1 : IntKind.i64.wrap (N - (pe' : Int)) = (d : Int) := by rw [IntKind.wrap_i64]; omega
                            have s2 : IntKind.i64.wrap ((L : Int) - (d : Int)) = (L : Int) - (d : Int) := by rw [IntKind.wrap_i64]; omega
                            have d0 : 0 < d := by omega
                            have d1 : d ≤ L := by omega
                            have HND := hide hd
                            clear hd
                            have OT := (unhide HRW).own
                            rw [unhide HPS, pcsT_snoc] at OT
                            have OT2 : OwnT 47 wr w.heap.size (.slice (some ⟨gp, 0, none⟩) (pcsT qs ++ [pcT (j, pa, pe')]).length cp) (pcsT qs ++ [pcT (j, pa, pe')]) := by
                              have e : (pcsT qs ++ [pcT (j, pa, pe')]).length = ln := by rw [List.length_append, pcsT_length, unhide HPQ]; exact unhide HLN
                              rw [e]; exact OT
                            have NT := OT2.last (z := N)
                            have e9 : (pcsT qs ++ [pcT (j, pa, pe')]).length = ln := by rw [List.length_append, pcsT_length, unhide HPQ]; exact unhide HLN
                            rw [e9, pcsT_length, unhide HPQ] at NT
                            have gne : G ≠ gp := fun e => (unhide HRW).own.apart (unhide HRW).left (unhide HTY) (by rw [e]; rfl)
                            have LN : OwnI (wr.setCell ⟨gp, p * 3 + 2, none⟩ (.int .i64 N)) G i (fun j => ((sim (qOf i f r) pe').lf j : Int)) := (unhide HRW).left.other gne _
                            have BN := (unhide HRW).bl.setCell (p := ⟨gp, p * 3 + 2, none⟩) (unhide HP3) (.int .i64 N)
                            obtain ⟨W6, hW6⟩ : ∃ V, wr.setCell ⟨gp, p * 3 + 2, none⟩ (.int .i64 N) = V := ⟨_, rfl⟩
                            rw [hW6] at NT LN BN
                            have g5 := LN.cell (show j < i from hj)
                            rw [unhide HLj] at g5
                            have g5f := LN.free j
                            have FIN : Hid (RInv w (W6.setCell ⟨G, j, none⟩ (.int .i64 ((L : Int) - (d : Int)))) i f r G (pe' + d) (j : Int) (.slice (some ⟨gp, 0, none⟩) ln cp)) := by
                              refine (unhide HRW).serve (unhide HCHj) d0 (by rw [unhide HLj]; exact d1) (unhide HAA) (BN.setCell (unhide HRW).gl _) (by rw [unhide HLj]; exact LN.set j _) ?_
                              have OX := NT.other LN (unhide HTY) j (.int .i64 ((L : Int) - (d : Int)))
                              have ej : joinT (pcsT (sim (qOf i f r) pe').ps) ((j : Int), (pe' : Int), ((pe' + d : Nat) : Int)) = pcsT qs ++ [((j : Int), (pa : Int), N)] := by
                                rw [unhide HPS, pcsT_snoc, joinT_last, if_pos ⟨rfl, rfl⟩, unhide HET]
                                rfl
                              rw [ej]
                              exact OX
                            have hxb := (unhide FIN).time (unhide HG)
                            clear OT OT2 NT LN BN e9 gne HCHj HNX
                            go_wp2
                            refine ⟨⟨pe' + d, _, by rw [unhide HET], rfl, by exact unhide FIN⟩, by have hnd := unhide HND; simp [intOf]; omega⟩
                          · have hA : ∀ k, k < i → (pe' : Int) < (f k).1 → ((pe' + L : Nat) : Int) ≤ (f k).1 := fun k hk hl => by
                              rcases unhide HNX with ⟨h, _⟩ | ⟨_, _, h⟩
                              · omega
                              · have := h k hk hl; omega
                            have HAA := hide hA
                            clear hA
                            have HET : Hid (((pe' + L : Nat) : Int) = ((pe' : Int) + (L : Int))) := by show _ = _; omega
                            have s1 : IntKind.i64.wrap (((pe' : Int) + (L : Int)) - (pe' : Int)) = (L : Int) := by rw [IntKind.wrap_i64]; omega
                            have s2 : IntKind.i64.wrap ((L : Int) - (L : Int)) = (L : Int) - (L : Int) := by rw [IntKind.wrap_i64]; omega
                            have d0 : 0 < L := by omega
                            have d1 : L ≤ L := by omega
                            have OT := (unhide HRW).own
                            rw [unhide HPS, pcsT_snoc] at OT
                            have OT2 : OwnT 47 wr w.heap.size (.slice (some ⟨gp, 0, none⟩) (pcsT qs ++ [pcT (j, pa, pe')]).length cp) (pcsT qs ++ [pcT (j, pa, pe')]) := by
                              have e : (pcsT qs ++ [pcT (j, pa, pe')]).length = ln := by rw [List.length_append, pcsT_length, unhide HPQ]; exact unhide HLN
                              rw [e]; exact OT
                            have NT := OT2.last (z := ((pe' : Int) + (L : Int)))
                            have e9 : (pcsT qs ++ [pcT (j, pa, pe')]).length = ln := by rw [List.length_append, pcsT_length, unhide HPQ]; exact unhide HLN
                            rw [e9, pcsT_length, unhide HPQ] at NT
                            have gne : G ≠ gp := fun e => (unhide HRW).own.apart (unhide HRW).left (unhide HTY) (by rw [e]; rfl)
                            have LN : OwnI (wr.setCell ⟨gp, p * 3 + 2, none⟩ (.int .i64 ((pe' : Int) + (L : Int)))) G i (fun j => ((sim (qOf i f r) pe').lf j : Int)) := (unhide HRW).left.other gne _
                            have BN := (unhide HRW).bl.setCell (p := ⟨gp, p * 3 + 2, none⟩) (unhide HP3) (.int .i64 ((pe' : Int) + (L : Int)))
                            obtain ⟨W6, hW6⟩ : ∃ V, wr.setCell ⟨gp, p * 3 + 2, none⟩ (.int .i64 ((pe' : Int) + (L : Int))) = V := ⟨_, rfl⟩
                            rw [hW6] at NT LN BN
                            have g5 := LN.cell (show j < i from hj)
                            rw [unhide HLj] at g5
                            have g5f := LN.free j
                            have FIN : Hid (RInv w (W6.setCell ⟨G, j, none⟩ (.int .i64 ((L : Int) - (L : Int)))) i f r G (pe' + L) (j : Int) (.slice (some ⟨gp, 0, none⟩) ln cp)) := by
                              refine (unhide HRW).serve (unhide HCHj) d0 (by rw [unhide HLj]; exact d1) (unhide HAA) (BN.setCell (unhide HRW).gl _) (by rw [unhide HLj]; exact LN.set j _) ?_
                              have OX := NT.other LN (unhide HTY) j (.int .i64 ((L : Int) - (L : Int)))
                              have ej : joinT (pcsT (sim (qOf i f r) pe').ps) ((j : Int), (pe' : Int), ((pe' + L : Nat) : Int)) = pcsT qs ++ [((j : Int), (pa : Int), ((pe' : Int) + (L : Int)))] := by
                                rw [unhide HPS, pcsT_snoc, joinT_last, if_pos ⟨rfl, rfl⟩, unhide HET]
                                rfl
                              rw [ej]
                              exact OX
                            have hxb := (unhide FIN).time (unhide HG)
                            clear OT OT2 NT LN BN e9 gne HCHj HNX
                            go_wp2
                            refine ⟨⟨pe' + L, _, by rw [unhide HET], rfl, by have h := unhide FIN; rw [Int.sub_self] at h; exact h⟩, by simp [intOf]; omega⟩
                    · have hjn : ¬ (j0 : Int) = (j : Int) := by omega
                      as_aux_lemma =>
                        have hj := (left_pos hch).2
                        have hjp := (left_pos hch).1
                        have hjl := (unhide HRW).lf_le (unhide HG) (show j < i from hj)
                        have lj := (unhide HRW).left.cell (show j < i from hj)
                        have ljf := (unhide HRW).left.free j
                        obtain ⟨L, hLj⟩ : ∃ L, (sim (qOf i f r) pe').lf j = L := ⟨_, rfl⟩
                        rw [hLj] at hjp hjl lj
                        have z1 : ¬ (j : Int) < 0 := by omega
                        have z2 : (j : Int) < (i : Int) := by have : j < i := hj; omega
                        have z3 : (0 : Int) ≤ (j : Int) := by omega
                        have z4 : IntKind.i64.wrap ((pe' : Int) + (L : Int)) = (pe' : Int) + (L : Int) := by rw [IntKind.wrap_i64]; omega
                        have HCHj := hide hch
                        have HLj := hide hLj
                        clear hch hLj
                        by_cases hn1 : N < 0
                        · have hA : ∀ k, k < i → (pe' : Int) < (f k).1 → ((pe' + L : Nat) : Int) ≤ (f k).1 := fun k hk hl => by
                            rcases unhide HNX with ⟨_, h⟩ | ⟨h, _, _⟩
                            · have := h k hk; omega
                            · omega
                          have HAA := hide hA
                          clear hA
                          have HET : Hid (((pe' + L : Nat) : Int) = ((pe' : Int) + (L : Int))) := by show _ = _; omega
                          have s1 : IntKind.i64.wrap (((pe' : Int) + (L : Int)) - (pe' : Int)) = (L : Int) := by rw [IntKind.wrap_i64]; omega
                          have s2 : IntKind.i64.wrap ((L : Int) - (L : Int)) = (L : Int) - (L : Int) := by rw [IntKind.wrap_i64]; omega
                          have d0 : 0 < L := by omega
                          have d1 : L ≤ L := by omega
                          have PLEN : Hid ((pcsT (sim (qOf i f r) pe').ps).length = ln) := by show _ = _; exact unhide HLP
                          have OT := (unhide HRW).own
                          have b7 := alloc_below wr (.cells #[.int .i64 (j : Int), .int .i64 (pe' : Int), .int .i64 ((pe' : Int) + (L : Int))] 47)
                          have O7 := OT.keep b7
                          have L7 := (unhide HRW).left.keep b7
                          have B7 := below_step (unhide HRW).bl b7
                          have HO7 := hide O7
                          have HL7 := hide L7
                          have HB7 := hide B7
                          have Q63 : Hid ((pcsT (sim (qOf i f r) pe').ps).length + 1 ≤ maxLen) := by show _ ≤ _; rw [unhide PLEN]; unfold maxLen; have := unhide HQL; have := unhide HLN; omega
                          have Q24 : Hid (((pcsT (sim (qOf i f r) pe').ps).length + 1) * 24 ≤ 140737488355328) := by show _ ≤ _; rw [unhide PLEN]; have := unhide HQL; have := unhide HLN; omega
                          have HJ : Hid (joinT (pcsT (sim (qOf i f r) pe').ps) ((j : Int), (pe' : Int), ((pe' + L : Nat) : Int)) = pcsT (sim (qOf i f r) pe').ps ++ [((j : Int), (pe' : Int), ((pe' : Int) + (L : Int)))]) := by
                            show _ = _
                            rw [unhide HPS, pcsT_snoc, joinT_last, if_neg (fun h => hjn (show (j0 : Int) = (j : Int) from h.1)), unhide HET]
                          have HD0 := hide d0
                          have HD1 := hide d1
                          have HJ0 : Hid (j < i) := hj
                          have HAPA := hide (O7.apart L7 (unhide HTY))
                          clear OT b7 O7 L7 B7 d0 d1
                          go_wp2_with (at_builtin; go_loud (refine wpList_append_lies _ rfl _ _ _ rfl w.heap.size 47 ti (.agg #[.int .i64 0, .int .i64 0, .int .i64 0]) 3 24 Tryd.underlying43 (unhide HI) (unhide HZ) hz1 hz2 rfl (by decide) _ (pcsT (sim (qOf i f r) pe').ps).length (pcells (pcsT (sim (qOf i f r) pe').ps)) rfl (unhide HO7) ⟨wr.heap.size, 0, none⟩ 1 1 (T3.cells ((j : Int), (pe' : Int), ((pe' : Int) + (L : Int)))) rfl rfl (news_three wr ((j : Int), (pe' : Int), ((pe' : Int) + (L : Int))) _) (cells_one _) (by decide) (unhide Q63) (unhide Q24) (unhide HB7).size (wr.heap.size + 1) (alloc_size _ _) ?_; intro g5 cap5 w5 own5 grow5 hat5 hlt5; have OW : OwnT 47 w5 w.heap.size (.slice (some ⟨g5, 0, none⟩) ((pcsT (sim (qOf i f r) pe').ps).length + 1) cap5) (pcsT (sim (qOf i f r) pe').ps ++ [((j : Int), (pe' : Int), ((pe' : Int) + (L : Int)))]) := (by unfold OwnT; rw [pcells_append, pcells_one, List.length_append]; exact own5); have L5 : OwnI w5 G i (fun j => ((sim (qOf i f r) pe').lf j : Int)) := (by unfold OwnI; rw [grow5.block G (unhide HL7).lt (fun e => unhide HAPA e.symm)]; exact unhide HL7); have B5 := Below.grown (unhide HB7) grow5 (unhide HB7).size (fun k hk => (unhide HO7).row k hk); have c5 := L5.cell (unhide HJ0); have c5f := L5.free j; have FIN : Hid (RInv w (w5.setCell ⟨G, j, none⟩ (.int .i64 ((L : Int) - (L : Int)))) i f r G (pe' + L) (j : Int) (.slice (some ⟨g5, 0, none⟩) ((pcsT (sim (qOf i f r) pe').ps).length + 1) cap5)) := (by refine (unhide HRW).serve (unhide HCHj) (unhide HD0) (by rw [unhide HLj]; exact unhide HD1) (unhide HAA) (B5.setCell (unhide HRW).gl _) (by rw [unhide HLj]; exact L5.set j _) ?_; rw [unhide HJ]; exact OW.other L5 (unhide HTY) j _); rw [unhide HLj] at c5; clear own5 grow5 hat5 hlt5 OW L5 B5))
                          have hxb := (unhide FIN).time (unhide HG)
                          refine ⟨⟨pe' + L, _, by rw [unhide HET], rfl, by have h := unhide FIN; rw [Int.sub_self] at h; exact h⟩, by have := unhide HD0; simp [intOf]; omega⟩
                        · by_cases hn2 : N < (pe' : Int) + (L : Int)
                          · obtain ⟨d, hd⟩ : ∃ d : Nat, N = (pe' : Int) + (d : Int) := ⟨(N - pe').toNat, by omega⟩
                            have hA : ∀ k, k < i → (pe' : Int) < (f k).1 → ((pe' + d : Nat) : Int) ≤ (f k).1 := fun k hk hl => by
                              rcases unhide HNX with ⟨h, _⟩ | ⟨_, _, h⟩
                              · omega
                              · have := h k hk hl; omega
                            have HAA := hide hA
                            clear hA
                            have HET : Hid (((pe' + d : Nat) : Int) = N) := by show _ = _; omega
                            have s1 : IntKind.i64.wrap (N - (pe' : Int)) = (d : Int) := by rw [IntKind.wrap_i64]; omega
                            have s2 : IntKind.i64.wrap ((L : Int) - (d : Int)) = (L : Int) - (d : Int) := by rw [IntKind.wrap_i64]; omega
                            have d0 : 0 < d := by omega
                            have d1 : d ≤ L := by omega
                            have HND := hide hd
                            clear hd
                            have PLEN : Hid ((pcsT (sim (qOf i f r) pe').ps).length = ln) := by show _ = _; exact unhide HLP
                            have OT := (unhide HRW).own
                            have b7 := alloc_below wr (.cells #[.int .i64 (j : Int), .int .i64 (pe' : Int), .int .i64 N] 47)
                            have O7 := OT.keep b7
                            have L7 := (unhide HRW).left.keep b7
                            have B7 := below_step (unhide HRW).bl b7
                            have HO7 := hide O7
                            have HL7 := hide L7
                            have HB7 := hide B7
                            have Q63 : Hid ((pcsT (sim (qOf i f r) pe').ps).length + 1 ≤ maxLen) := by show _ ≤ _; rw [unhide PLEN]; unfold maxLen; have := unhide HQL; have := unhide HLN; omega
                            have Q24 : Hid (((pcsT (sim (qOf i f r) pe').ps).length + 1) * 24 ≤ 140737488355328) := by show _ ≤ _; rw [unhide PLEN]; have := unhide HQL; have := unhide HLN; omega
                            have HJ : Hid (joinT (pcsT (sim (qOf i f r) pe').ps) ((j : Int), (pe' : Int), ((pe' + d : Nat) : Int)) = pcsT (sim (qOf i f r) pe').ps ++ [((j : Int), (pe' : Int), N)]) := by
                              show _ = _
                              rw [unhide HPS, pcsT_snoc, joinT_last, if_neg (fun h => hjn (show (j0 : Int) = (j : Int) from h.1)), unhide HET]
                            have HD0 := hide d0
                            have HD1 := hide d1
                            have HJ0 : Hid (j < i) := hj
                            have HAPA := hide (O7.apart L7 (unhide HTY))
                            clear OT b7 O7 L7 B7 d0 d1
                            go_wp2_with (at_builtin; go_loud (refine wpList_append_lies _ rfl _ _ _ rfl w.heap.size 47 ti (.agg #[.int .i64 0, .int .i64 0, .int .i64 0]) 3 24 Tryd.underlying43 (unhide HI) (unhide HZ) hz1 hz2 rfl (by decide) _ (pcsT (sim (qOf i f r) pe').ps).length (pcells (pcsT (sim (qOf i f r) pe').ps)) rfl (unhide HO7) ⟨wr.heap.size, 0, none⟩ 1 1 (T3.cells ((j : Int), (pe' : Int), N)) rfl rfl (news_three wr ((j : Int), (pe' : Int), N) _) (cells_one _) (by decide) (unhide Q63) (unhide Q24) (unhide HB7).size (wr.heap.size + 1) (alloc_size _ _) ?_; intro g5 cap5 w5 own5 grow5 hat5 hlt5; have OW : OwnT 47 w5 w.heap.size (.slice (some ⟨g5, 0, none⟩) ((pcsT (sim (qOf i f r) pe').ps).length + 1) cap5) (pcsT (sim (qOf i f r) pe').ps ++ [((j : Int), (pe' : Int), N)]) := (by unfold OwnT; rw [pcells_append, pcells_one, List.length_append]; exact own5); have L5 : OwnI w5 G i (fun j => ((sim (qOf i f r) pe').lf j : Int)) := (by unfold OwnI; rw [grow5.block G (unhide HL7).lt (fun e => unhide HAPA e.symm)]; exact unhide HL7); have B5 := Below.grown (unhide HB7) grow5 (unhide HB7).size (fun k hk => (unhide HO7).row k hk); have c5 := L5.cell (unhide HJ0); have c5f := L5.free j; have FIN : Hid (RInv w (w5.setCell ⟨G, j, none⟩ (.int .i64 ((L : Int) - (d : Int)))) i f r G (pe' + d) (j : Int) (.slice (some ⟨g5, 0, none⟩) ((pcsT (sim (qOf i f r) pe').ps).length + 1) cap5)) := (by refine (unhide HRW).serve (unhide HCHj) (unhide HD0) (by rw [unhide HLj]; exact unhide HD1) (unhide HAA) (B5.setCell (unhide HRW).gl _) (by rw [unhide HLj]; exact L5.set j _) ?_; rw [unhide HJ]; exact OW.other L5 (unhide HTY) j _); rw [unhide HLj] at c5; clear own5 grow5 hat5 hlt5 OW L5 B5))
                            have hxb := (unhide FIN).time (unhide HG)
                            refine ⟨⟨pe' + d, _, by rw [unhide HET], rfl, by exact unhide FIN⟩, by have := unhide HD0; have hnd := unhide HND; simp [intOf]; omega⟩
                          · have hA : ∀ k, k < i → (pe' : Int) < (f k).1 → ((pe' + L : Nat) : Int) ≤ (f k).1 := fun k hk hl => by
                              rcases unhide HNX with ⟨h, _⟩ | ⟨_, _, h⟩
                              · omega
                              · have := h k hk hl; omega
                            have HAA := hide hA
                            clear hA
                            have HET : Hid (((pe' + L : Nat) : Int) = ((pe' : Int) + (L : Int))) := by show _ = _; omega
                            have s1 : IntKind.i64.wrap (((pe' : Int) + (L : Int)) - (pe' : Int)) = (L : Int) := by rw [IntKind.wrap_i64]; omega
                            have s2 : IntKind.i64.wrap ((L : Int) - (L : Int)) = (L : Int) - (L : Int) := by rw [IntKind.wrap_i64]; omega
                            have d0 : 0 < L := by omega
                            have d1 : L ≤ L := by omega
                            have PLEN : Hid ((pcsT (sim (qOf i f r) pe').ps).length = ln) := by show _ = _; exact unhide HLP
                            have OT := (unhide HRW).own
                            have b7 := alloc_below wr (.cells #[.int .i64 (j : Int), .int .i64 (pe' : Int), .int .i64 ((pe' : Int) + (L : Int))] 47)
                            have O7 := OT.keep b7
                            have L7 := (unhide HRW).left.keep b7
                            have B7 := below_step (unhide HRW).bl b7
                            have HO7 := hide O7
                            have HL7 := hide L7
                            have HB7 := hide B7
                            have Q63 : Hid ((pcsT (sim (qOf i f r) pe').ps).length + 1 ≤ maxLen) := by show _ ≤ _; rw [unhide PLEN]; unfold maxLen; have := unhide HQL; have := unhide HLN; omega
                            have Q24 : Hid (((pcsT (sim (qOf i f r) pe').ps).length + 1) * 24 ≤ 140737488355328) := by show _ ≤ _; rw [unhide PLEN]; have := unhide HQL; have := unhide HLN; omega
                            have HJ : Hid (joinT (pcsT (sim (qOf i f r) pe').ps) ((j : Int), (pe' : Int), ((pe' + L : Nat) : Int)) = pcsT (sim (qOf i f r) pe').ps ++ [((j : Int), (pe' : Int), ((pe' : Int) + (L : Int)))]) := by
                              show _ = _
                              rw [unhide HPS, pcsT_snoc, joinT_last, if_neg (fun h => hjn (show (j0 : Int) = (j : Int) from h.1)), unhide HET]
                            have HD0 := hide d0
                            have HD1 := hide d1
                            have HJ0 : Hid (j < i) := hj
                            have HAPA := hide (O7.apart L7 (unhide HTY))
                            clear OT b7 O7 L7 B7 d0 d1
                            go_wp2_with (at_builtin; go_loud (refine wpList_append_lies _ rfl _ _ _ rfl w.heap.size 47 ti (.agg #[.int .i64 0, .int .i64 0, .int .i64 0]) 3 24 Tryd.underlying43 (unhide HI) (unhide HZ) hz1 hz2 rfl (by decide) _ (pcsT (sim (qOf i f r) pe').ps).length (pcells (pcsT (sim (qOf i f r) pe').ps)) rfl (unhide HO7) ⟨wr.heap.size, 0, none⟩ 1 1 (T3.cells ((j : Int), (pe' : Int), ((pe' : Int) + (L : Int)))) rfl rfl (news_three wr ((j : Int), (pe' : Int), ((pe' : Int) + (L : Int))) _) (cells_one _) (by decide) (unhide Q63) (unhide Q24) (unhide HB7).size (wr.heap.size + 1) (alloc_size _ _) ?_; intro g5 cap5 w5 own5 grow5 hat5 hlt5; have OW : OwnT 47 w5 w.heap.size (.slice (some ⟨g5, 0, none⟩) ((pcsT (sim (qOf i f r) pe').ps).length + 1) cap5) (pcsT (sim (qOf i f r) pe').ps ++ [((j : Int), (pe' : Int), ((pe' : Int) + (L : Int)))]) := (by unfold OwnT; rw [pcells_append, pcells_one, List.length_append]; exact own5); have L5 : OwnI w5 G i (fun j => ((sim (qOf i f r) pe').lf j : Int)) := (by unfold OwnI; rw [grow5.block G (unhide HL7).lt (fun e => unhide HAPA e.symm)]; exact unhide HL7); have B5 := Below.grown (unhide HB7) grow5 (unhide HB7).size (fun k hk => (unhide HO7).row k hk); have c5 := L5.cell (unhide HJ0); have c5f := L5.free j; have FIN : Hid (RInv w (w5.setCell ⟨G, j, none⟩ (.int .i64 ((L : Int) - (L : Int)))) i f r G (pe' + L) (j : Int) (.slice (some ⟨g5, 0, none⟩) ((pcsT (sim (qOf i f r) pe').ps).length + 1) cap5)) := (by refine (unhide HRW).serve (unhide HCHj) (unhide HD0) (by rw [unhide HLj]; exact unhide HD1) (unhide HAA) (B5.setCell (unhide HRW).gl _) (by rw [unhide HLj]; exact L5.set j _) ?_; rw [unhide HJ]; exact OW.other L5 (unhide HTY) j _); rw [unhide HLj] at c5; clear own5 grow5 hat5 hlt5 OW L5 B5))
                            have hxb := (unhide FIN).time (unhide HG)
                            refine ⟨⟨pe' + L, _, by rw [unhide HET], rfl, by have h := unhide FIN; rw [Int.sub_self] at h; exact h⟩, by have := unhide HD0; simp [intOf]; omega⟩
              · have hL1 : L0 = 0 := by omega
                subst hL1
                have hch : choice (qOf i f r) (sim (qOf i f r) t) t = bst (qOf i f r) (sim (qOf i f r) t).lf t i := choice_best (fun k hk _ => by rw [unhide H5 k hk]; exact unhide HL0)
                rcases unhide HBS with ⟨eb, hno⟩ | ⟨j, eb, BS⟩
                · rw [eb] at hch ⊢
                  have HCH := hide hch
                  have HNO := hide hno
                  rw [show ob none = -1 from rfl]
                  clear hch eb hno HBS
                  as_aux_lemma =>
                    by_cases hn1 : N < 0
                    · have HDN : Hid (Done (qOf i f r) t) := fun k hk => unhide HNO k hk (by
                        rcases unhide HNX with ⟨_, h⟩ | ⟨h, _, _⟩
                        · have h1 := h k hk
                          have h2 := ((unhide HG).at0 k hk).1
                          show (f k).1.toNat ≤ t
                          omega
                        · omega)
                      clear HNO hNc
                      go_wp2
                      go_ret
                      exact ⟨_, t, rfl, unhide HDN, (unhide HRW).own, (unhide HRW).bl⟩
                    · obtain ⟨x, rfl⟩ : ∃ x : Nat, N = (x : Int) := ⟨N.toNat, by omega⟩
                      have hxt : t < x := by omega
                      have FIN := hide ((unhide HRW).idle (unhide HG) (unhide HCH) hxt (by rcases unhide HNX with ⟨h, _⟩ | ⟨_, _, h⟩; omega; exact h) (by rcases unhide HNX with ⟨h, _⟩ | ⟨_, h, _⟩; omega; exact h))
                      have hxb := (unhide FIN).time (unhide HG)
                      clear HNO hNc
                      go_wp2
                      exact ⟨⟨x, _, rfl, rfl, unhide FIN⟩, by simp [intOf]; omega⟩
                · rw [eb] at hch ⊢
                  rw [show ob (some j) = (j : Int) from rfl]
                  have hjn : ¬ (j0 : Int) = (j : Int) := by
                    intro h
                    have h' : j0 = j := by omega
                    have := (left_pos hch).1
                    rw [← h', unhide HL0] at this
                    omega
                  as_aux_lemma =>
                    have hj := (left_pos hch).2
                    have hjp := (left_pos hch).1
                    have hjl := (unhide HRW).lf_le (unhide HG) (show j < i from hj)
                    have lj := (unhide HRW).left.cell (show j < i from hj)
                    have ljf := (unhide HRW).left.free j
                    obtain ⟨L, hLj⟩ : ∃ L, (sim (qOf i f r) t).lf j = L := ⟨_, rfl⟩
                    rw [hLj] at hjp hjl lj
                    have z1 : ¬ (j : Int) < 0 := by omega
                    have z2 : (j : Int) < (i : Int) := by have : j < i := hj; omega
                    have z3 : (0 : Int) ≤ (j : Int) := by omega
                    have z4 : IntKind.i64.wrap ((t : Int) + (L : Int)) = (t : Int) + (L : Int) := by rw [IntKind.wrap_i64]; omega
                    have HCHj := hide hch
                    have HLj := hide hLj
                    clear hch hLj
                    by_cases hn1 : N < 0
                    · have hA : ∀ k, k < i → (t : Int) < (f k).1 → ((t + L : Nat) : Int) ≤ (f k).1 := fun k hk hl => by
                        rcases unhide HNX with ⟨_, h⟩ | ⟨h, _, _⟩
                        · have := h k hk; omega
                        · omega
                      have HAA := hide hA
                      clear hA
                      have HET : Hid (((t + L : Nat) : Int) = ((t : Int) + (L : Int))) := by show _ = _; omega
                      have s1 : IntKind.i64.wrap (((t : Int) + (L : Int)) - (t : Int)) = (L : Int) := by rw [IntKind.wrap_i64]; omega
                      have s2 : IntKind.i64.wrap ((L : Int) - (L : Int)) = (L : Int) - (L : Int) := by rw [IntKind.wrap_i64]; omega
                      have d0 : 0 < L := by omega
                      have d1 : L ≤ L := by omega
                      have PLEN : Hid ((pcsT (sim (qOf i f r) t).ps).length = ln) := by show _ = _; exact unhide HLP
                      have OT := (unhide HRW).own
                      have b7 := alloc_below wr (.cells #[.int .i64 (j : Int), .int .i64 (t : Int), .int .i64 ((t : Int) + (L : Int))] 47)
                      have O7 := OT.keep b7
                      have L7 := (unhide HRW).left.keep b7
                      have B7 := below_step (unhide HRW).bl b7
                      have HO7 := hide O7
                      have HL7 := hide L7
                      have HB7 := hide B7
                      have Q63 : Hid ((pcsT (sim (qOf i f r) t).ps).length + 1 ≤ maxLen) := by show _ ≤ _; rw [unhide PLEN]; unfold maxLen; have := unhide HQL; have := unhide HLN; omega
                      have Q24 : Hid (((pcsT (sim (qOf i f r) t).ps).length + 1) * 24 ≤ 140737488355328) := by show _ ≤ _; rw [unhide PLEN]; have := unhide HQL; have := unhide HLN; omega
                      have HJ : Hid (joinT (pcsT (sim (qOf i f r) t).ps) ((j : Int), (t : Int), ((t + L : Nat) : Int)) = pcsT (sim (qOf i f r) t).ps ++ [((j : Int), (t : Int), ((t : Int) + (L : Int)))]) := by
                        show _ = _
                        rw [unhide HPS, pcsT_snoc, joinT_last, if_neg (fun h => hjn (show (j0 : Int) = (j : Int) from h.1)), unhide HET]
                      have HD0 := hide d0
                      have HD1 := hide d1
                      have HJ0 : Hid (j < i) := hj
                      have HAPA := hide (O7.apart L7 (unhide HTY))
                      clear OT b7 O7 L7 B7 d0 d1
                      go_wp2_with (at_builtin; go_loud (refine wpList_append_lies _ rfl _ _ _ rfl w.heap.size 47 ti (.agg #[.int .i64 0, .int .i64 0, .int .i64 0]) 3 24 Tryd.underlying43 (unhide HI) (unhide HZ) hz1 hz2 rfl (by decide) _ (pcsT (sim (qOf i f r) t).ps).length (pcells (pcsT (sim (qOf i f r) t).ps)) rfl (unhide HO7) ⟨wr.heap.size, 0, none⟩ 1 1 (T3.cells ((j : Int), (t : Int), ((t : Int) + (L : Int)))) rfl rfl (news_three wr ((j : Int), (t : Int), ((t : Int) + (L : Int))) _) (cells_one _) (by decide) (unhide Q63) (unhide Q24) (unhide HB7).size (wr.heap.size + 1) (alloc_size _ _) ?_; intro g5 cap5 w5 own5 grow5 hat5 hlt5; have OW : OwnT 47 w5 w.heap.size (.slice (some ⟨g5, 0, none⟩) ((pcsT (sim (qOf i f r) t).ps).length + 1) cap5) (pcsT (sim (qOf i f r) t).ps ++ [((j : Int), (t : Int), ((t : Int) + (L : Int)))]) := (by unfold OwnT; rw [pcells_append, pcells_one, List.length_append]; exact own5); have L5 : OwnI w5 G i (fun j => ((sim (qOf i f r) t).lf j : Int)) := (by unfold OwnI; rw [grow5.block G (unhide HL7).lt (fun e => unhide HAPA e.symm)]; exact unhide HL7); have B5 := Below.grown (unhide HB7) grow5 (unhide HB7).size (fun k hk => (unhide HO7).row k hk); have c5 := L5.cell (unhide HJ0); have c5f := L5.free j; have FIN : Hid (RInv w (w5.setCell ⟨G, j, none⟩ (.int .i64 ((L : Int) - (L : Int)))) i f r G (t + L) (j : Int) (.slice (some ⟨g5, 0, none⟩) ((pcsT (sim (qOf i f r) t).ps).length + 1) cap5)) := (by refine (unhide HRW).serve (unhide HCHj) (unhide HD0) (by rw [unhide HLj]; exact unhide HD1) (unhide HAA) (B5.setCell (unhide HRW).gl _) (by rw [unhide HLj]; exact L5.set j _) ?_; rw [unhide HJ]; exact OW.other L5 (unhide HTY) j _); rw [unhide HLj] at c5; clear own5 grow5 hat5 hlt5 OW L5 B5))
                      have hxb := (unhide FIN).time (unhide HG)
                      refine ⟨⟨t + L, _, by rw [unhide HET], rfl, by have h := unhide FIN; rw [Int.sub_self] at h; exact h⟩, by have := unhide HD0; simp [intOf]; omega⟩
                    · by_cases hn2 : N < (t : Int) + (L : Int)
                      · obtain ⟨d, hd⟩ : ∃ d : Nat, N = (t : Int) + (d : Int) := ⟨(N - t).toNat, by omega⟩
                        have hA : ∀ k, k < i → (t : Int) < (f k).1 → ((t + d : Nat) : Int) ≤ (f k).1 := fun k hk hl => by
                          rcases unhide HNX with ⟨h, _⟩ | ⟨_, _, h⟩
                          · omega
                          · have := h k hk hl; omega
                        have HAA := hide hA
                        clear hA
                        have HET : Hid (((t + d : Nat) : Int) = N) := by show _ = _; omega
                        have s1 : IntKind.i64.wrap (N - (t : Int)) = (d : Int) := by rw [IntKind.wrap_i64]; omega
                        have s2 : IntKind.i64.wrap ((L : Int) - (d : Int)) = (L : Int) - (d : Int) := by rw [IntKind.wrap_i64]; omega
                        have d0 : 0 < d := by omega
                        have d1 : d ≤ L := by omega
                        have HND := hide hd
                        clear hd
                        have PLEN : Hid ((pcsT (sim (qOf i f r) t).ps).length = ln) := by show _ = _; exact unhide HLP
                        have OT := (unhide HRW).own
                        have b7 := alloc_below wr (.cells #[.int .i64 (j : Int), .int .i64 (t : Int), .int .i64 N] 47)
                        have O7 := OT.keep b7
                        have L7 := (unhide HRW).left.keep b7
                        have B7 := below_step (unhide HRW).bl b7
                        have HO7 := hide O7
                        have HL7 := hide L7
                        have HB7 := hide B7
                        have Q63 : Hid ((pcsT (sim (qOf i f r) t).ps).length + 1 ≤ maxLen) := by show _ ≤ _; rw [unhide PLEN]; unfold maxLen; have := unhide HQL; have := unhide HLN; omega
                        have Q24 : Hid (((pcsT (sim (qOf i f r) t).ps).length + 1) * 24 ≤ 140737488355328) := by show _ ≤ _; rw [unhide PLEN]; have := unhide HQL; have := unhide HLN; omega
                        have HJ : Hid (joinT (pcsT (sim (qOf i f r) t).ps) ((j : Int), (t : Int), ((t + d : Nat) : Int)) = pcsT (sim (qOf i f r) t).ps ++ [((j : Int), (t : Int), N)]) := by
                          show _ = _
                          rw [unhide HPS, pcsT_snoc, joinT_last, if_neg (fun h => hjn (show (j0 : Int) = (j : Int) from h.1)), unhide HET]
                        have HD0 := hide d0
                        have HD1 := hide d1
                        have HJ0 : Hid (j < i) := hj
                        have HAPA := hide (O7.apart L7 (unhide HTY))
                        clear OT b7 O7 L7 B7 d0 d1
                        go_wp2_with (at_builtin; go_loud (refine wpList_append_lies _ rfl _ _ _ rfl w.heap.size 47 ti (.agg #[.int .i64 0, .int .i64 0, .int .i64 0]) 3 24 Tryd.underlying43 (unhide HI) (unhide HZ) hz1 hz2 rfl (by decide) _ (pcsT (sim (qOf i f r) t).ps).length (pcells (pcsT (sim (qOf i f r) t).ps)) rfl (unhide HO7) ⟨wr.heap.size, 0, none⟩ 1 1 (T3.cells ((j : Int), (t : Int), N)) rfl rfl (news_three wr ((j : Int), (t : Int), N) _) (cells_one _) (by decide) (unhide Q63) (unhide Q24) (unhide HB7).size (wr.heap.size + 1) (alloc_size _ _) ?_; intro g5 cap5 w5 own5 grow5 hat5 hlt5; have OW : OwnT 47 w5 w.heap.size (.slice (some ⟨g5, 0, none⟩) ((pcsT (sim (qOf i f r) t).ps).length + 1) cap5) (pcsT (sim (qOf i f r) t).ps ++ [((j : Int), (t : Int), N)]) := (by unfold OwnT; rw [pcells_append, pcells_one, List.length_append]; exact own5); have L5 : OwnI w5 G i (fun j => ((sim (qOf i f r) t).lf j : Int)) := (by unfold OwnI; rw [grow5.block G (unhide HL7).lt (fun e => unhide HAPA e.symm)]; exact unhide HL7); have B5 := Below.grown (unhide HB7) grow5 (unhide HB7).size (fun k hk => (unhide HO7).row k hk); have c5 := L5.cell (unhide HJ0); have c5f := L5.free j; have FIN : Hid (RInv w (w5.setCell ⟨G, j, none⟩ (.int .i64 ((L : Int) - (d : Int)))) i f r G (t + d) (j : Int) (.slice (some ⟨g5, 0, none⟩) ((pcsT (sim (qOf i f r) t).ps).length + 1) cap5)) := (by refine (unhide HRW).serve (unhide HCHj) (unhide HD0) (by rw [unhide HLj]; exact unhide HD1) (unhide HAA) (B5.setCell (unhide HRW).gl _) (by rw [unhide HLj]; exact L5.set j _) ?_; rw [unhide HJ]; exact OW.other L5 (unhide HTY) j _); rw [unhide HLj] at c5; clear own5 grow5 hat5 hlt5 OW L5 B5))
                        have hxb := (unhide FIN).time (unhide HG)
                        refine ⟨⟨t + d, _, by rw [unhide HET], rfl, by exact unhide FIN⟩, by have := unhide HD0; have hnd := unhide HND; simp [intOf]; omega⟩
                      · have hA : ∀ k, k < i → (t : Int) < (f k).1 → ((t + L : Nat) : Int) ≤ (f k).1 := fun k hk hl => by
                          rcases unhide HNX with ⟨h, _⟩ | ⟨_, _, h⟩
                          · omega
                          · have := h k hk hl; omega
                        have HAA := hide hA
                        clear hA
                        have HET : Hid (((t + L : Nat) : Int) = ((t : Int) + (L : Int))) := by show _ = _; omega
                        have s1 : IntKind.i64.wrap (((t : Int) + (L : Int)) - (t : Int)) = (L : Int) := by rw [IntKind.wrap_i64]; omega
                        have s2 : IntKind.i64.wrap ((L : Int) - (L : Int)) = (L : Int) - (L : Int) := by rw [IntKind.wrap_i64]; omega
                        have d0 : 0 < L := by omega
                        have d1 : L ≤ L := by omega
                        have PLEN : Hid ((pcsT (sim (qOf i f r) t).ps).length = ln) := by show _ = _; exact unhide HLP
                        have OT := (unhide HRW).own
                        have b7 := alloc_below wr (.cells #[.int .i64 (j : Int), .int .i64 (t : Int), .int .i64 ((t : Int) + (L : Int))] 47)
                        have O7 := OT.keep b7
                        have L7 := (unhide HRW).left.keep b7
                        have B7 := below_step (unhide HRW).bl b7
                        have HO7 := hide O7
                        have HL7 := hide L7
                        have HB7 := hide B7
                        have Q63 : Hid ((pcsT (sim (qOf i f r) t).ps).length + 1 ≤ maxLen) := by show _ ≤ _; rw [unhide PLEN]; unfold maxLen; have := unhide HQL; have := unhide HLN; omega
                        have Q24 : Hid (((pcsT (sim (qOf i f r) t).ps).length + 1) * 24 ≤ 140737488355328) := by show _ ≤ _; rw [unhide PLEN]; have := unhide HQL; have := unhide HLN; omega
                        have HJ : Hid (joinT (pcsT (sim (qOf i f r) t).ps) ((j : Int), (t : Int), ((t + L : Nat) : Int)) = pcsT (sim (qOf i f r) t).ps ++ [((j : Int), (t : Int), ((t : Int) + (L : Int)))]) := by
                          show _ = _
                          rw [unhide HPS, pcsT_snoc, joinT_last, if_neg (fun h => hjn (show (j0 : Int) = (j : Int) from h.1)), unhide HET]
                        have HD0 := hide d0
                        have HD1 := hide d1
                        have HJ0 : Hid (j < i) := hj
                        have HAPA := hide (O7.apart L7 (unhide HTY))
                        clear OT b7 O7 L7 B7 d0 d1
                        go_wp2_with (at_builtin; go_loud (refine wpList_append_lies _ rfl _ _ _ rfl w.heap.size 47 ti (.agg #[.int .i64 0, .int .i64 0, .int .i64 0]) 3 24 Tryd.underlying43 (unhide HI) (unhide HZ) hz1 hz2 rfl (by decide) _ (pcsT (sim (qOf i f r) t).ps).length (pcells (pcsT (sim (qOf i f r) t).ps)) rfl (unhide HO7) ⟨wr.heap.size, 0, none⟩ 1 1 (T3.cells ((j : Int), (t : Int), ((t : Int) + (L : Int)))) rfl rfl (news_three wr ((j : Int), (t : Int), ((t : Int) + (L : Int))) _) (cells_one _) (by decide) (unhide Q63) (unhide Q24) (unhide HB7).size (wr.heap.size + 1) (alloc_size _ _) ?_; intro g5 cap5 w5 own5 grow5 hat5 hlt5; have OW : OwnT 47 w5 w.heap.size (.slice (some ⟨g5, 0, none⟩) ((pcsT (sim (qOf i f r) t).ps).length + 1) cap5) (pcsT (sim (qOf i f r) t).ps ++ [((j : Int), (t : Int), ((t : Int) + (L : Int)))]) := (by unfold OwnT; rw [pcells_append, pcells_one, List.length_append]; exact own5); have L5 : OwnI w5 G i (fun j => ((sim (qOf i f r) t).lf j : Int)) := (by unfold OwnI; rw [grow5.block G (unhide HL7).lt (fun e => unhide HAPA e.symm)]; exact unhide HL7); have B5 := Below.grown (unhide HB7) grow5 (unhide HB7).size (fun k hk => (unhide HO7).row k hk); have c5 := L5.cell (unhide HJ0); have c5f := L5.free j; have FIN : Hid (RInv w (w5.setCell ⟨G, j, none⟩ (.int .i64 ((L : Int) - (L : Int)))) i f r G (t + L) (j : Int) (.slice (some ⟨g5, 0, none⟩) ((pcsT (sim (qOf i f r) t).ps).length + 1) cap5)) := (by refine (unhide HRW).serve (unhide HCHj) (unhide HD0) (by rw [unhide HLj]; exact unhide HD1) (unhide HAA) (B5.setCell (unhide HRW).gl _) (by rw [unhide HLj]; exact L5.set j _) ?_; rw [unhide HJ]; exact OW.other L5 (unhide HTY) j _); rw [unhide HLj] at c5; clear own5 grow5 hat5 hlt5 OW L5 B5))
                        have hxb := (unhide FIN).time (unhide HG)
                        refine ⟨⟨t + L, _, by rw [unhide HET], rfl, by have h := unhide FIN; rw [Int.sub_self] at h; exact h⟩, by have := unhide HD0; simp [intOf]; omega⟩
end Go.Proofs.YteflciddadjilaaDoor
