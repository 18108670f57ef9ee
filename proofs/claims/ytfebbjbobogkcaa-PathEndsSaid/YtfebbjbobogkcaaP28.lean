/- PathEnds: the walk. -/
import Derived.Test.YtfebbjbobogkcaaP27
namespace Go.Proofs.Ytfebbjbobogkcaa
open Go.RowKit Go.Sort Sim

set_option maxHeartbeats 8000000 in
set_option maxRecDepth 100000 in
theorem pathEnds_any (a a' : Option Addr) (n c m c' : Nat) (f g : Nat → T3) (x : Int) (w : World) (ha : TRow w a n c f) (hb : TRow w a' m c' g) :
    Calls Try.prog 3 #[.slice a n c, .slice a' m c', .int .i64 x] w fun e w' => e = .returned (.bool true) ∧ Below w.heap.size w w' := by
  have hc1 := ha.1
  have hc2 := ha.2.1
  have hd1 := hb.1
  have hd2 := hb.2.1
  by_cases hn : (100 : Int) < (n : Int)
  · go_enter Try.func3, Try.ntmps3
    go_wp2
    go_ret
    exact ⟨rfl, Below.refl _ _⟩
  by_cases hm : (200 : Int) < (m : Int)
  · go_enter Try.func3, Try.ntmps3
    go_wp2
    go_ret
    exact ⟨rfl, Below.refl _ _⟩
  obtain ⟨ti, hi, hz0, hz1, hz2⟩ := info_parts Try.infoPr
  have HI := hide hi
  have HZ := hide hz0
  have HA := hide ha
  have HP := hide hb
  clear hi hz0 ha hb
  go_enter Try.func3, Try.ntmps3
  go_wp2_with fail
  go_loopw [7, 8] (fun vo vi wr => ∃ i : Nat, vi = .int .i64 (i : Int) ∧ i ≤ m ∧ OwnT 27 wr w.heap.size vo (firsts g i) ∧ Below w.heap.size w wr) (fun _ vi _ => m - (intOf vi).toNat)
  case atStart => exact ⟨0, rfl, Nat.zero_le _, OwnT.start _ _ _, Below.refl _ _⟩
  case round =>
    obtain ⟨i, rfl, hi, hO, hb⟩ := hrel
    by_cases hlt : i < m
    · obtain ⟨b, o, rfl, hbl, hc3⟩ := ((unhide HP).below hb).2.2 (by omega)
      have ⟨q0, q1, q2⟩ := hc3 i hlt
      obtain ⟨⟨x0, y, z⟩, hf⟩ : ∃ t, g i = t := ⟨_, rfl⟩
      rw [hf] at q0 q1 q2
      simp only at q0 q1 q2
      have e1 : (i : Int) < (m : Int) := by omega
      have HO := hide hO
      have HB := hide hb
      have HS : Hid (firsts g (i + 1) = firsts g i ++ [(x0, y, z)]) := by show _ = _; rw [firsts_succ, hf]
      have HL := hide (firsts_length g i)
      clear hc3 hO hb hf
      go_wp2_with fail
      go_region_law ((refine step_append_lies _ rfl (.tmp 23) (.tmp 40) 24 rfl w.heap.size 27 ti (.agg #[.int .i64 0, .int .i64 0, .int .i64 0]) 3 24 Try.underlying24 (unhide HI) (unhide HZ) hz1 hz2 rfl (by decide) u7 (firsts g i).length (pcells (firsts g i)) (by simp [Act.eval]) ((unhide HO).keep (below_step (drew_below _) (alloc_below _ _))) ⟨wr.heap.size, 0, none⟩ 1 1 (T3.cells (x0, y, z)) (by simp [Act.eval]) rfl (news_three _ (x0, y, z) _) (cells_one _) (by decide) (by rw [unhide HL]; unfold maxLen; omega) (by rw [unhide HL]; omega) (Nat.le_trans (unhide HB).size (below_step (drew_below wr) (alloc_below _ _)).size) _ rfl ?_; intro g2 cap2 w4 own4 grow4 hat4 hlt4))
      all_goals
        have FIN : Hid (OwnT 27 w4 w.heap.size (.slice (some ⟨g2, 0, none⟩) ((firsts g i).length + 1) cap2) (firsts g (i + 1))) := by
          show OwnT _ _ _ _ _
          rw [unhide HS]
          unfold OwnT
          rw [pcells_append, pcells_one, List.length_append]
          exact own4
        have FB : Hid (Below w.heap.size w w4) := by
          refine Below.grown (below_step (unhide HB) ?_) grow4 ?_ (unhide HO).row
          · exact below_step (drew_below _) (alloc_below _ _)
          · exact Nat.le_trans (unhide HB).size (below_step (drew_below wr) (alloc_below _ _)).size
        clear own4 grow4 hat4
        go_wp2
        exact ⟨⟨i + 1, by go_num, hlt, unhide FIN, unhide FB⟩, by simp [intOf]; omega⟩
    · obtain rfl : i = m := by omega
      have e1 : ¬ (i : Int) < (i : Int) := by omega
      obtain ⟨aw, cw, rfl, htw⟩ := hO.trow
      rw [firsts_length] at htw ⊢
      have HTW : Hid (TRow wr aw i cw g) := trow_congr htw (fun j hj => firsts_get g hj)
      have HB := hide hb
      have hwc := htw.1
      have hwc2 := htw.2.1
      clear hO htw hb
      have hn1 : n ≤ 1000 := by omega
      have C1 := hide (ends_any a a' n c i c' g wr ((unhide HP).below (unhide HB)) hn1)
      go_wp2_with fail
      refine (unhide C1).mono ?_
      rintro e w1 ⟨rfl, hO1, hb1⟩
      obtain ⟨G1, hG1⟩ : ∃ G, wr.heap.size = G := ⟨_, rfl⟩
      rw [hG1] at hO1 ⊢
      have HO1 := hide hO1
      have HB1 := hide (below_step (unhide HB) hb1)
      have HT1 := hide ((unhide HTW).below hb1)
      have C2 := hide (jobs_any a n c f w1 ((unhide HA).below (unhide HB1)) hn1)
      clear hO1 hb1 C1 hG1
      go_wp2_with fail
      refine (unhide C2).mono ?_
      rintro e w2 ⟨aj, cj, rfl, htj, hb2⟩
      have HO1 := hide ((unhide HO1).keep hb2)
      have HB2 := hide (below_step (unhide HB1) hb2)
      have HT2 := hide ((unhide HT1).below hb2)
      have C3 := hide (rends_any aj aw n cj i cw g w2 (unhide HT2) hn1)
      clear hb2 htj C2 HB1 HT1
      go_wp2_with fail
      refine (unhide C3).mono ?_
      rintro e w3 ⟨rfl, hO3, hb3⟩
      obtain ⟨G3, hG3⟩ : ∃ G, w2.heap.size = G := ⟨_, rfl⟩
      rw [hG3] at hO3 ⊢
      have HO1 := hide ((unhide HO1).keep hb3)
      have HB3 := hide (below_step (unhide HB2) hb3)
      have HT3 := hide ((unhide HT2).below hb3)
      have C4 := hide (lawSame_any (some ⟨G1, 0, none⟩) (some ⟨G3, 0, none⟩) n n n n (endsI n g i) (endsI n g i) w3 ((unhide HO1).irow (by omega)) (hO3.irow (by omega)))
      rw [likeB_true.2 ⟨rfl, fun _ _ => rfl⟩] at C4
      clear hb3 hO3 C3 HB2 HT2 hG3
      go_wp2_with fail
      refine (unhide C4).mono ?_
      rintro e w4 ⟨rfl, q4, rfl⟩
      have HB4 := hide (below_step (unhide HB3) (below_drewN w3 q4))
      have HT4 := hide ((unhide HT3).below (below_drewN w3 q4))
      have C5 := hide (work_any a a' n c i c' f g x (w3.drewN q4) ((unhide HA).below (unhide HB4)) ((unhide HP).below (unhide HB4)))
      clear C4 HB3 HT3
      go_wp2_with fail
      refine (unhide C5).mono ?_
      rintro e w5 ⟨rfl, hb5⟩
      have HB5 := hide (below_step (unhide HB4) hb5)
      have HT5 := hide ((unhide HT4).below hb5)
      have C6 := hide (jobs_any a n c f w5 ((unhide HA).below (unhide HB5)) hn1)
      clear hb5 C5 HB4 HT4
      go_wp2_with fail
      refine (unhide C6).mono ?_
      rintro e w6 ⟨ak, ck, rfl, htk, hb6⟩
      have HB6 := hide (below_step (unhide HB5) hb6)
      have C7 := hide (rwork_any ak aw n ck i cw f g x w6 htk ((unhide HT5).below hb6))
      clear hb6 htk C6 HB5 HT5
      go_wp2_with fail
      refine (unhide C7).mono ?_
      rintro e w7 ⟨rfl, hb7⟩
      have HB7 := hide (below_step (unhide HB6) hb7)
      clear hb7 C7 HB6
      go_wp2
      go_ret
      exact ⟨rfl, unhide HB7⟩
end Go.Proofs.Ytfebbjbobogkcaa
