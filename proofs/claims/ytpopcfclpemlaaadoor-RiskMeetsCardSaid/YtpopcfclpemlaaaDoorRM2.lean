/- Things of gates: least, Paths, Cuts. -/
import Derived.Test.YtpopcfclpemlaaaDoorRM1
namespace Go.Proofs.YtpopcfclpemlaaaDoor
open Go.RowKit Go.Sort Go.Shelf

/-- Sets as numbers of the program. -/
def lsI (L : List Nat) : List Int := L.map (fun (n : Nat) => ((n : Nat) : Int))
theorem lsI_length (L : List Nat) : (lsI L).length = L.length := by simp [lsI]
theorem lsI_get (L : List Nat) {j : Nat} (h : j < L.length) : (lsI L)[j]! = ((L[j]! : Nat) : Int) := by simp [lsI, h]
/-- A row of sets that is read. -/
def NRowL (w : World) (v : Value) (L : List Nat) : Prop := ∃ a c, v = .slice a L.length c ∧ IRow w a L.length c (fun j => ((L[j]! : Nat) : Int))
theorem nrowl_of {w : World} {B : Nat} {v : Value} {L : List Nat} (h : OwnL w B v (lsI L)) : NRowL w v L := by
  obtain ⟨a, c, hv, h1, h2, h3⟩ := h.irow
  rw [lsI_length] at hv h1 h3
  refine ⟨a, c, hv, h1, h2, fun hp => ?_⟩
  obtain ⟨b, o, e, hb, hc⟩ := h3 hp
  exact ⟨b, o, e, hb, fun j hj => by rw [hc j hj]; show some (Value.int .i64 (lsI L)[j]!) = _; rw [lsI_get L hj]⟩
theorem NRowL.below {w w' : World} {v : Value} {L : List Nat} (h : NRowL w v L) (hb : Below w.heap.size w w') : NRowL w' v L := by
  obtain ⟨a, c, e, hr⟩ := h
  exact ⟨a, c, e, hr.below hb⟩
theorem lsts_len (P : Nat) (f : Nat → Bool) (n : Nat) : (Rsk.lsts P f n).length ≤ n := by
  unfold Rsk.lsts
  exact Nat.le_trans (List.length_filter_le _ _) (by rw [List.length_range]; exact Nat.le_refl _)
/-- What least says. -/
def LeastPost (w : World) (L : List Nat) (e : Ending) (w' : World) : Prop := ∃ v, e = .returned v ∧ NRowL w' v L ∧ Below w.heap.size w w'
set_option maxHeartbeats 16000000 in
set_option maxRecDepth 100000 in
set_option linter.unusedSimpArgs false in
theorem pth_least (P : Nat) (f : Nat → Bool) (p1 : Nat) (wb w : World) (hP : P ≤ 10) (hbw : Below wb.heap.size wb w)
    (HF : Hid (∀ (W : World) (s : Nat), Below wb.heap.size wb W → s < 2 ^ P → Calls Tryd.prog 53 #[.int .i64 (s : Int), .pointer (some ⟨p1, 0, none⟩)] W fun e w' => e = .returned (.bool (f s)) ∧ Below W.heap.size W w')) :
    Calls Tryd.prog 52 #[.int .i64 (P : Int), .func (.func 53) #[] #[.pointer (some ⟨p1, 0, none⟩)]] w (LeastPost w (Rsk.lsts P f (2 ^ P))) := by
  have HBW := hide hbw
  obtain ⟨ti, hi, hz0, hz1, hz2⟩ := info_parts Tryd.infoI
  have HI := hide hi
  have HZ := hide hz0
  obtain ⟨M, hM⟩ : ∃ M, 2 ^ P = M := ⟨_, rfl⟩
  have hM1 : M ≤ 1024 := by rw [← hM]; exact Nat.pow_le_pow_right (by decide) hP
  have HWN : Hid (wrap64 ((2 : Int) ^ P) = (M : Int)) := show _ = _ by rw [wrap64_pow (Nat.le_trans hP (by decide)), hM]
  have HSP : Hid (∀ (W : World) (s : Nat), Below wb.heap.size wb W → s < M → Calls Tryd.prog 87 #[.int .i64 (P : Int), .int .i64 (s : Int), .func (.func 53) #[] #[.pointer (some ⟨p1, 0, none⟩)]] W fun e w' => e = .returned (.bool (spB f s P)) ∧ Below W.heap.size W w') := fun W s hW hs => pth_spares P s f p1 wb W hP (by rw [hM]; exact hs) hW HF
  have HF2 : Hid (∀ (W : World) (s : Nat), Below wb.heap.size wb W → s < M → Calls Tryd.prog 53 #[.int .i64 (s : Int), .pointer (some ⟨p1, 0, none⟩)] W fun e w' => e = .returned (.bool (f s)) ∧ Below W.heap.size W w') := fun W s hW hs => unhide HF W s hW (by rw [hM]; exact hs)
  rw [hM]
  have HO0 := hide (OwnL.start w w.heap.size)
  clear hbw HF hM hi hz0
  have hwn := unhide HWN
  go_enter Tryd.func52, Tryd.ntmps52
  go_wp2_with fail
  clear hwn
  rw [unhide HWN]
  go_loopw [5, 9] (fun vo vi wr => ∃ i : Nat, vi = .int .i64 (i : Int) ∧ i ≤ M ∧ OwnL wr w.heap.size vo (lsI (Rsk.lsts P f i)) ∧ Below w.heap.size w wr) (fun _ vi _ => M - (intOf vi).toNat)
  case atStart => exact ⟨0, rfl, Nat.zero_le _, show OwnL w w.heap.size _ [] from unhide HO0, Below.refl _ _⟩
  case round =>
    obtain ⟨i, rfl, hi, hO, hbr⟩ := hrel
    by_cases hlt : i < M
    · have j1 : (i : Int) < (M : Int) := by omega
      have j0 : (0 : Int) ≤ (i : Int) := by omega
      have HCL := hide (unhide HF2 wr i (below_step (unhide HBW) hbr) hlt)
      have HLT := hide hlt
      have HO := hide hO
      have HBR := hide hbr
      have HST := hide (Rsk.lsts_step P f i)
      have HLE := hide (lsts_len P f i)
      have HL1 := hide (lst1_is P f i)
      clear hO hbr hlt
      cases hF : f i with
      | false =>
        rw [hF] at HCL
        have HE : Hid (Rsk.lsts P f (i + 1) = Rsk.lsts P f i) := by show _ = _; rw [unhide HST, unhide HL1, hF, Bool.false_and, if_neg (by decide), List.append_nil]
        clear hF
        go_wp2_with fail
        refine (unhide HCL).mono ?_
        rintro e_ w2 ⟨rfl, hb2⟩
        have HB2 := hide (below_step (unhide HBR) hb2)
        have HO2 := hide ((unhide HO).keep hb2)
        clear HCL hb2
        go_wp2
        exact ⟨⟨i + 1, by go_num, unhide HLT, by rw [unhide HE]; exact unhide HO2, unhide HB2⟩, by have := unhide HLT; simp [intOf]; omega⟩
      | true =>
        rw [hF] at HCL
        have HFT := hide hF
        clear hF
        go_wp2_with fail
        refine (unhide HCL).mono ?_
        rintro e_ w2 ⟨rfl, hb2⟩
        have HB2 := hide (below_step (unhide HBR) hb2)
        have HO2 := hide ((unhide HO).keep hb2)
        have HSP2 := hide (unhide HSP w2 i (below_step (unhide HBW) (below_step (unhide HBR) hb2)) (unhide HLT))
        clear HCL hb2 HO HBR
        cases hS : spB f i P with
        | true =>
          rw [hS] at HSP2
          have HE : Hid (Rsk.lsts P f (i + 1) = Rsk.lsts P f i) := by show _ = _; rw [unhide HST, unhide HL1, unhide HFT, hS, if_neg (by decide), List.append_nil]
          clear hS
          go_wp2_with fail
          refine (unhide HSP2).mono ?_
          rintro e_ w3 ⟨rfl, hb3⟩
          have HB3 := hide (below_step (unhide HB2) hb3)
          have HO3 := hide ((unhide HO2).keep hb3)
          clear HSP2 hb3 HO2 HB2
          go_wp2
          exact ⟨⟨i + 1, by go_num, unhide HLT, by rw [unhide HE]; exact unhide HO3, unhide HB3⟩, by have := unhide HLT; simp [intOf]; omega⟩
        | false =>
          rw [hS] at HSP2
          have HE : Hid (lsI (Rsk.lsts P f (i + 1)) = lsI (Rsk.lsts P f i) ++ [(i : Int)]) := by
            show _ = _
            rw [unhide HST, unhide HL1, unhide HFT, hS, if_pos (by decide)]
            unfold lsI
            rw [List.map_append]; rfl
          clear hS
          go_wp2_with fail
          refine (unhide HSP2).mono ?_
          rintro e_ wv ⟨rfl, hb3⟩
          have HBV := hide (below_step (unhide HB2) hb3)
          have HOV := hide ((unhide HO2).keep hb3)
          have hlen := lsI_length (Rsk.lsts P f i)
          obtain ⟨xs, hxs⟩ : ∃ l, lsI (Rsk.lsts P f i) = l := ⟨_, rfl⟩
          rw [hxs] at HOV HE hlen
          have HO4 := hide ((unhide HOV).keep (abelow wv (.cells #[.int .i64 (i : Int)] 3)))
          have Q63 : Hid (xs.length + 1 ≤ maxLen) := by show _ ≤ _; unfold maxLen; have := unhide HLE; omega
          have Q8 : Hid ((xs.length + 1) * 8 ≤ 140737488355328) := by show _ ≤ _; have := unhide HLE; omega
          have QB : Hid (w.heap.size ≤ (wv.alloc (.cells #[.int .i64 (i : Int)] 3)).heap.size) := Nat.le_trans (unhide HBV).size (abelow wv _).size
          clear HSP2 hb3 HO2 HB2 hlen hxs
          go_wp2_with (at_builtin; go_loud (refine wpList_append_lies _ rfl _ _ _ rfl w.heap.size 3 ti (.int .i64 0) 1 8 Tryd.underlying45 (unhide HI) (unhide HZ) hz1 hz2 rfl (by decide) _ xs.length (xs.map (Value.int .i64 ·)) rfl (unhide HO4) ⟨wv.heap.size, 0, none⟩ 1 1 [.int .i64 (i : Int)] rfl rfl (news_int wv _ _) (one_int _) (by decide) (unhide Q63) (unhide Q8) (unhide QB) (wv.heap.size + 1) (alloc_size _ _) ?_; intro g8 cap8 w8 own8 grow8 hat8 hlt8; have HO8 := hide (OwnL.push own8); have HB8 := hide (OwnL.grow (unhide HOV) (unhide HBV) (Nat.le_refl _) (alloc_below wv _) grow8); clear own8 grow8 hat8 hlt8))
          exact ⟨⟨i + 1, by go_num, unhide HLT, by rw [unhide HE]; exact unhide HO8, unhide HB8⟩, by have := unhide HLT; simp [intOf]; omega⟩
    · obtain rfl : i = M := by omega
      have j1 : ¬ (i : Int) < (i : Int) := by omega
      have HN := hide (nrowl_of hO)
      have HB := hide hbr
      clear hO hbr
      go_wp2
      go_ret
      exact ⟨_, rfl, unhide HN, unhide HB⟩

set_option maxHeartbeats 16000000 in
set_option maxRecDepth 100000 in
set_option linter.unusedSimpArgs false in
theorem cut_least (P : Nat) (f : Nat → Bool) (p1 p2 : Nat) (wb w : World) (hP : P ≤ 10) (hbw : Below wb.heap.size wb w)
    (HF : Hid (∀ (W : World) (s : Nat), Below wb.heap.size wb W → s < 2 ^ P → Calls Tryd.prog 55 #[.int .i64 (s : Int), .pointer (some ⟨p1, 0, none⟩), .pointer (some ⟨p2, 0, none⟩)] W fun e w' => e = .returned (.bool (f s)) ∧ Below W.heap.size W w')) :
    Calls Tryd.prog 52 #[.int .i64 (P : Int), .func (.func 55) #[] #[.pointer (some ⟨p1, 0, none⟩), .pointer (some ⟨p2, 0, none⟩)]] w (LeastPost w (Rsk.lsts P f (2 ^ P))) := by
  have HBW := hide hbw
  obtain ⟨ti, hi, hz0, hz1, hz2⟩ := info_parts Tryd.infoI
  have HI := hide hi
  have HZ := hide hz0
  obtain ⟨M, hM⟩ : ∃ M, 2 ^ P = M := ⟨_, rfl⟩
  have hM1 : M ≤ 1024 := by rw [← hM]; exact Nat.pow_le_pow_right (by decide) hP
  have HWN : Hid (wrap64 ((2 : Int) ^ P) = (M : Int)) := show _ = _ by rw [wrap64_pow (Nat.le_trans hP (by decide)), hM]
  have HSP : Hid (∀ (W : World) (s : Nat), Below wb.heap.size wb W → s < M → Calls Tryd.prog 87 #[.int .i64 (P : Int), .int .i64 (s : Int), .func (.func 55) #[] #[.pointer (some ⟨p1, 0, none⟩), .pointer (some ⟨p2, 0, none⟩)]] W fun e w' => e = .returned (.bool (spB f s P)) ∧ Below W.heap.size W w') := fun W s hW hs => cut_spares P s f p1 p2 wb W hP (by rw [hM]; exact hs) hW HF
  have HF2 : Hid (∀ (W : World) (s : Nat), Below wb.heap.size wb W → s < M → Calls Tryd.prog 55 #[.int .i64 (s : Int), .pointer (some ⟨p1, 0, none⟩), .pointer (some ⟨p2, 0, none⟩)] W fun e w' => e = .returned (.bool (f s)) ∧ Below W.heap.size W w') := fun W s hW hs => unhide HF W s hW (by rw [hM]; exact hs)
  rw [hM]
  have HO0 := hide (OwnL.start w w.heap.size)
  clear hbw HF hM hi hz0
  have hwn := unhide HWN
  go_enter Tryd.func52, Tryd.ntmps52
  go_wp2_with fail
  clear hwn
  rw [unhide HWN]
  go_loopw [5, 9] (fun vo vi wr => ∃ i : Nat, vi = .int .i64 (i : Int) ∧ i ≤ M ∧ OwnL wr w.heap.size vo (lsI (Rsk.lsts P f i)) ∧ Below w.heap.size w wr) (fun _ vi _ => M - (intOf vi).toNat)
  case atStart => exact ⟨0, rfl, Nat.zero_le _, show OwnL w w.heap.size _ [] from unhide HO0, Below.refl _ _⟩
  case round =>
    obtain ⟨i, rfl, hi, hO, hbr⟩ := hrel
    by_cases hlt : i < M
    · have j1 : (i : Int) < (M : Int) := by omega
      have j0 : (0 : Int) ≤ (i : Int) := by omega
      have HCL := hide (unhide HF2 wr i (below_step (unhide HBW) hbr) hlt)
      have HLT := hide hlt
      have HO := hide hO
      have HBR := hide hbr
      have HST := hide (Rsk.lsts_step P f i)
      have HLE := hide (lsts_len P f i)
      have HL1 := hide (lst1_is P f i)
      clear hO hbr hlt
      cases hF : f i with
      | false =>
        rw [hF] at HCL
        have HE : Hid (Rsk.lsts P f (i + 1) = Rsk.lsts P f i) := by show _ = _; rw [unhide HST, unhide HL1, hF, Bool.false_and, if_neg (by decide), List.append_nil]
        clear hF
        go_wp2_with fail
        refine (unhide HCL).mono ?_
        rintro e_ w2 ⟨rfl, hb2⟩
        have HB2 := hide (below_step (unhide HBR) hb2)
        have HO2 := hide ((unhide HO).keep hb2)
        clear HCL hb2
        go_wp2
        exact ⟨⟨i + 1, by go_num, unhide HLT, by rw [unhide HE]; exact unhide HO2, unhide HB2⟩, by have := unhide HLT; simp [intOf]; omega⟩
      | true =>
        rw [hF] at HCL
        have HFT := hide hF
        clear hF
        go_wp2_with fail
        refine (unhide HCL).mono ?_
        rintro e_ w2 ⟨rfl, hb2⟩
        have HB2 := hide (below_step (unhide HBR) hb2)
        have HO2 := hide ((unhide HO).keep hb2)
        have HSP2 := hide (unhide HSP w2 i (below_step (unhide HBW) (below_step (unhide HBR) hb2)) (unhide HLT))
        clear HCL hb2 HO HBR
        cases hS : spB f i P with
        | true =>
          rw [hS] at HSP2
          have HE : Hid (Rsk.lsts P f (i + 1) = Rsk.lsts P f i) := by show _ = _; rw [unhide HST, unhide HL1, unhide HFT, hS, if_neg (by decide), List.append_nil]
          clear hS
          go_wp2_with fail
          refine (unhide HSP2).mono ?_
          rintro e_ w3 ⟨rfl, hb3⟩
          have HB3 := hide (below_step (unhide HB2) hb3)
          have HO3 := hide ((unhide HO2).keep hb3)
          clear HSP2 hb3 HO2 HB2
          go_wp2
          exact ⟨⟨i + 1, by go_num, unhide HLT, by rw [unhide HE]; exact unhide HO3, unhide HB3⟩, by have := unhide HLT; simp [intOf]; omega⟩
        | false =>
          rw [hS] at HSP2
          have HE : Hid (lsI (Rsk.lsts P f (i + 1)) = lsI (Rsk.lsts P f i) ++ [(i : Int)]) := by
            show _ = _
            rw [unhide HST, unhide HL1, unhide HFT, hS, if_pos (by decide)]
            unfold lsI
            rw [List.map_append]; rfl
          clear hS
          go_wp2_with fail
          refine (unhide HSP2).mono ?_
          rintro e_ wv ⟨rfl, hb3⟩
          have HBV := hide (below_step (unhide HB2) hb3)
          have HOV := hide ((unhide HO2).keep hb3)
          have hlen := lsI_length (Rsk.lsts P f i)
          obtain ⟨xs, hxs⟩ : ∃ l, lsI (Rsk.lsts P f i) = l := ⟨_, rfl⟩
          rw [hxs] at HOV HE hlen
          have HO4 := hide ((unhide HOV).keep (abelow wv (.cells #[.int .i64 (i : Int)] 3)))
          have Q63 : Hid (xs.length + 1 ≤ maxLen) := by show _ ≤ _; unfold maxLen; have := unhide HLE; omega
          have Q8 : Hid ((xs.length + 1) * 8 ≤ 140737488355328) := by show _ ≤ _; have := unhide HLE; omega
          have QB : Hid (w.heap.size ≤ (wv.alloc (.cells #[.int .i64 (i : Int)] 3)).heap.size) := Nat.le_trans (unhide HBV).size (abelow wv _).size
          clear HSP2 hb3 HO2 HB2 hlen hxs
          go_wp2_with (at_builtin; go_loud (refine wpList_append_lies _ rfl _ _ _ rfl w.heap.size 3 ti (.int .i64 0) 1 8 Tryd.underlying45 (unhide HI) (unhide HZ) hz1 hz2 rfl (by decide) _ xs.length (xs.map (Value.int .i64 ·)) rfl (unhide HO4) ⟨wv.heap.size, 0, none⟩ 1 1 [.int .i64 (i : Int)] rfl rfl (news_int wv _ _) (one_int _) (by decide) (unhide Q63) (unhide Q8) (unhide QB) (wv.heap.size + 1) (alloc_size _ _) ?_; intro g8 cap8 w8 own8 grow8 hat8 hlt8; have HO8 := hide (OwnL.push own8); have HB8 := hide (OwnL.grow (unhide HOV) (unhide HBV) (Nat.le_refl _) (alloc_below wv _) grow8); clear own8 grow8 hat8 hlt8))
          exact ⟨⟨i + 1, by go_num, unhide HLT, by rw [unhide HE]; exact unhide HO8, unhide HB8⟩, by have := unhide HLT; simp [intOf]; omega⟩
    · obtain rfl : i = M := by omega
      have j1 : ¬ (i : Int) < (i : Int) := by omega
      have HN := hide (nrowl_of hO)
      have HB := hide hbr
      clear hO hbr
      go_wp2
      go_ret
      exact ⟨_, rfl, unhide HN, unhide HB⟩

end Go.Proofs.YtpopcfclpemlaaaDoor
