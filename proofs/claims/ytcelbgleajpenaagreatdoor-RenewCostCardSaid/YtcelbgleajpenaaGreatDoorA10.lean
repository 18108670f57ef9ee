/- A number's text: the walk. -/
import Derived.Test.YtcelbgleajpenaaGreatDoorA9
import Derived.Laws.Concat
namespace Go.Proofs.YtcelbgleajpenaaGreatDoor
open Go.RowKit Go.Sort Go.Shelf Go.Dd

set_option maxRecDepth 100000 in
theorem text_zero (a : Option Addr) (c : Nat) (w : World) :
    Calls Tryz.prog 93 #[.slice a 0 c] w fun e w' => e = .returned (.string ⟨(Lib.decDigits 0).toArray⟩) ∧ Below w.heap.size w w' := by
  have HC := hide (clone_zero a c w)
  go_enter Tryz.func93, Tryz.ntmps93
  go_wp2_with (go_at_call 127; refine (unhide HC).mono ?_; rintro e w1 ⟨a1, c1, rfl, hb1⟩)
  go_loopw [3, 4] (fun vp vl wr => vp = .slice none 0 0 ∧ (∃ a1 c1, vl = .slice a1 0 c1) ∧ Below w.heap.size w wr) (fun _ _ _ => 0)
  case atStart => exact ⟨rfl, ⟨_, _, rfl⟩, hb1⟩
  case round =>
    obtain ⟨rfl, ⟨a2, c2, rfl⟩, hb⟩ := hrel
    go_wp2
    go_ret
    refine ⟨?_, hb⟩
    rw [show Lib.decDigits 0 = [48] by unfold Lib.decDigits; rfl]
    rfl

theorem part_fin {w w2 : World} (hb : Below w.heap.size w w2) (N : Int) (zs : Array Value) (c : Nat) :
    PartAt w (((w2.alloc (.cells #[.int .u64 N] 134)).alloc (.cells (#[.int .u64 N] ++ zs) 134)).drew) N (.slice (some ⟨w2.heap.size + 1, 0, none⟩) 1 c) := by
  refine ⟨⟨_, _, rfl, ?_⟩, below_step (below_step hb (alloc_below _ _)) ((alloc_below _ _).drew)⟩
  rw [World.cell?_drew]
  have : (w2.alloc (.cells #[.int .u64 N] 134)).heap.size = w2.heap.size + 1 := by simp
  rw [← this, World.cell?_alloc_new]
  exact (Array.getElem?_append_left (Nat.lt_succ_self 0 : 0 < (#[Value.int .u64 N] : Array Value).size)).trans rfl

theorem row_put {wr : World} {g cap k : Nat} {N : Int} {d' : Array Int} (hh : Head wr g 1 (fun _ => N)) (hs : d'.size = 1) (hc : 1 ≤ cap) (hm : cap ≤ 9223372036854775807) : RowIs ((putRow enc wr g 0 d').drewN k) (some ⟨g, 0, none⟩) 1 cap (fun j => d'[j]!) := by
  have hlt : g < wr.heap.size := by obtain ⟨cur, h, _⟩ := hh; exact (Array.getElem?_eq_some_iff.1 h).1
  refine ⟨hc, hm, fun _ => ⟨g, 0, rfl, by simpa [putRow, mapBlock] using hlt, fun j hj => ?_⟩⟩
  have := cell?_putRow enc wr g 0 #[N] d' (head_holds hh) (by rw [hs]; rfl) j (by omega)
  exact this

theorem dec_small (u : Nat) (h : u < 18446744073709551616) : (Lib.decDigits u).length ≤ 20 := by
  rw [Lib.decDigits_length]
  by_cases h1 : 1 ≤ u
  · have := Lib.numDigits_eq u h1 h
    split at this <;> omega
  · have : u = 0 := by omega
    subst this
    rw [← Lib.decDigits_length]
    unfold Lib.decDigits
    decide

theorem fresh_builder {w wr w4 : World} (hb : Below w.heap.size w wr) (h : Below (wr.heap.size + 1) (wr.alloc (.cells #[.pointer none, .slice none 0 0] 170)) w4) : Lib.IsBuilder 170 5 w.heap.size wr.heap.size [] w4 := by
  refine Or.inl ⟨hb.size, .slice none 0 0, ?_, ⟨rfl, Or.inl ⟨rfl, rfl⟩⟩, by simp [Value.ownBlock]⟩
  rw [h.block wr.heap.size (by omega)]
  show (wr.heap.push _)[wr.heap.size]? = _
  simp

set_option maxHeartbeats 2000000 in
set_option maxRecDepth 100000 in
theorem text_pos (b o c : Nat) (N : Int) (w : World) (hc : w.cell? ⟨b, o, none⟩ = some (.int .u64 N)) (h0 : 0 < N) (hN : N < 10000000000000000000) (htab : Tab w) :
    Calls Tryz.prog 93 #[.slice (some ⟨b, o, none⟩) 1 c] w fun e w' => e = .returned (.string ⟨(Lib.decDigits N.toNat).toArray⟩) ∧ Below w.heap.size w w' := by
  have HC := hide (clone_pos b o 1 c w (fun _ => N) (by decide) (by decide) (fun j hj => by have : j = 0 := by omega
                                                                                            subst this; exact hc))
  have HT := hide htab
  clear htab hc
  go_enter Tryz.func93, Tryz.ntmps93
  go_wp2_with (go_at_call 127; refine (unhide HC).mono ?_; rintro e w1 ⟨g, cap, rfl, hh1, hg1, hnc, hcm, hb1⟩)
  go_loopw [3, 4] (fun vp vl wr => (vp = .slice none 0 0 ∧ vl = .slice (some ⟨g, 0, none⟩) 1 cap ∧ wr = w1) ∨ ((∃ a1 c1, vl = .slice a1 0 c1) ∧ PartAt w wr N vp)) (fun _ vl _ => lenOf vl)
  case atStart => exact Or.inl ⟨rfl, rfl, rfl⟩
  case round =>
    rcases hrel with ⟨rfl, rfl, rfl⟩ | ⟨⟨a1, c1, rfl⟩, hpart⟩
    · have hdv := divideInto_any g 0 cap #[N] 1 10000000000000000000 wr rfl (head_holds hh1) (fun j hj => by
        have : j = 0 := by omega
        subst this
        exact ⟨by show 0 ≤ N; omega, by show N < _; omega⟩) (by decide) (by decide) (by decide)
      have ev : Wd.vl (fun j => (#[N] : Array Int)[j]!) 1 = N := by simp [Wd.vl, Wd.pw]
      rw [ev, Int.emod_eq_of_lt (by omega) hN, Int.ediv_eq_zero_of_lt (by omega) hN] at hdv
      have HDV := hide hdv
      have HH1 := hide hh1
      have HB1 := hide hb1
      clear hdv ev hh1 hb1
      go_wp2_with (go_at_call 128; refine (unhide HDV).mono ?_; rintro e w2 ⟨rfl, d', k, hds, hw2, hd2, hv2⟩; have HR2 := hide (show RowIs w2 _ _ _ _ from hw2 ▸ row_put (k := k) (unhide HH1) hds hnc hcm); have HB2 := hide (show Below w.heap.size w w2 from hw2 ▸ ((unhide HB1).trans (below_putRow d' hg1)).trans ⟨rfl, rfl, rfl, Nat.le_refl _, fun _ _ => rfl⟩); clear hw2)
      refine (trimmed_any _ _ _ _ _ ((unhide HR2).below ((alloc_below _ _).trans (((Below.refl _ _).alloc (by simp) _).drew))) hd2).mono ?_
      rintro e w3 ⟨m, rfl, hm, hlm, hw3⟩
      rw [hv2] at hlm
      have hm0 : m = 0 := by
        rcases hlm.2.2 with h | h
        · exact h
        · have := Wd.pw_pos (m - 1); omega
      subst hm0
      subst hw3
      have FIN := hide (fun zs c => part_fin (unhide HB2) N zs c)
      go_wp2
      exact ⟨Or.inr ⟨⟨_, _, rfl⟩, unhide FIN _ _⟩, by simp [lenOf]⟩
    · obtain ⟨⟨g2, c2, rfl, hcell⟩, hb⟩ := hpart
      have hlt2 : g2 < wr.heap.size := World.block_lt_of_cell? _ ⟨g2, 0, none⟩ hcell
      have hcell' : (wr.alloc (.cells #[.pointer none, .slice none 0 0] 170)).cell? ⟨g2, 0, none⟩ = some (.int .u64 N) := ((alloc_below wr _).cell (p := ⟨g2, 0, none⟩) hlt2).trans hcell
      have eN : ((N.toNat : Nat) : Int) = N := by omega
      have hT1 : Tab (wr.alloc (.cells #[.pointer none, .slice none 0 0] 170)) := tab_below (unhide HT) (below_step hb (alloc_below _ _))
      have hF := fmtUint_any N.toNat (by omega) (wr.alloc (.cells #[.pointer none, .slice none 0 0] 170)) hT1
      have hsz : (wr.alloc (.cells #[.pointer none, .slice none 0 0] 170)).heap.size = wr.heap.size + 1 := by simp
      rw [eN, hsz] at hF
      have hlen : ([] : List Value).length + (⟨(Lib.decDigits N.toNat).toArray⟩ : ByteArray).size ≤ 140737488355328 := by
        have := dec_small N.toNat (by omega)
        show 0 + (Lib.decDigits N.toNat).toArray.size ≤ _
        simp
        omega
      have HF := hide hF
      have HB := hide hb
      have HL := hide hlen
      clear hF hb hlen hT1 hcell hsz eN
      go_wp2_with (first | (go_at_call 131; refine (unhide HF).mono ?_; rintro e w4 ⟨rfl, hb4⟩; have HB4 := hide hb4; clear hb4) | (go_at_call 130; refine (writeString_any w.heap.size wr.heap.size [] _ _ (fresh_builder (unhide HB) (unhide HB4)) (unhide HL) (Nat.le_trans (unhide HB).size (Nat.le_trans (by simp) (unhide HB4).size))).mono ?_; rintro e w5 ⟨rfl, hbu, hb5⟩; have HBU := hide hbu; have HB5 := hide hb5; clear hbu hb5))
      go_loopw [6] (fun v w6 => v = .int .i64 (-1) ∧ w6 = w5) (fun _ _ => 0)
      case atStart => exact ⟨rfl, rfl⟩
      case round =>
        obtain ⟨rfl, hw6⟩ := hrel
        subst hw6
        go_wp2_with (go_at_call 133; go_loud (refine (Tryz.Builder_String w.heap.size _ (Lib.decDigits N.toNat) _ (Or.inr (unhide HBU)) (dec_ne _)).mono ?_; rintro e w7 ⟨rfl, hb7⟩))
        go_ret
        exact ⟨rfl, (((unhide HB).trans (below_step (Below.refl _ _) (alloc_below _ _) |>.mono (unhide HB).size)).trans ((unhide HB4).mono (Nat.le_trans (unhide HB).size (Nat.le_succ _)))).trans ((unhide HB5).trans hb7)⟩

theorem text_small (v : Value) (N : Int) (w : World) (h : NatIs w v N) (hN : N < 10000000000000000000) (htab : Tab w) :
    Calls Tryz.prog 93 #[v] w fun e w' => e = .returned (.string ⟨(Lib.decDigits N.toNat).toArray⟩) ∧ Below w.heap.size w w' := by
  obtain ⟨a, n, c, rfl, hl, hr⟩ := h
  by_cases hn0 : n = 0
  · subst hn0
    have := hl.zero
    subst this
    exact text_zero a c w
  · have hn1 : n = 1 := by
      rcases hl.2.2 with h | h
      · omega
      · have h1 : Wd.pw (n - 1) < Wd.pw 1 := by rw [Wd.pw_one]; omega
        have := Wd.pw_lt_of h1
        omega
    subst hn1
    have hp : 0 < N := by
      rcases hl.2.2 with h | h
      · omega
      · simp [Wd.pw] at h; omega
    obtain ⟨b, o, rfl, hlt, hc⟩ := hr.2.2 (by decide)
    have := hc 0 (by decide)
    rw [dig_one (by omega) (by omega)] at this
    exact text_pos b o c N w this hp hN htab
end Go.Proofs.YtcelbgleajpenaaGreatDoor
/- A fraction's text. -/
namespace Go.Proofs.YtcelbgleajpenaaGreatDoor
open Go.RowKit Go.Sort Go.Shelf Go.Dd

/-- What a fraction's text is. -/
def upperText (q : Rat) : List UInt8 := (if q.num < 0 then [45] else []) ++ Lib.decDigits q.num.natAbs
def qtext (q : Rat) : List UInt8 := upperText q ++ (if q.den = 1 then [] else 47 :: Lib.decDigits q.den)

theorem bytes_of {t : ByteArray} {l : List UInt8} (h : t.data.toList = l) : t = ⟨l.toArray⟩ := by
  subst h
  cases t
  simp

set_option maxHeartbeats 2000000 in
set_option maxRecDepth 100000 in
theorem textR_small (v : Value) (q : Rat) (w : World) (h : RatIs w v q) (hn : (q.num.natAbs : Int) < 10000000000000000000) (hd : (q.den : Int) < 10000000000000000000) (htab : Tab w) :
    Calls Tryz.prog 49 #[v] w fun e w' => e = .returned (.string ⟨(qtext q).toArray⟩) ∧ Below w.heap.size w w' := by
  obtain ⟨ov, un, rfl, h1, h2⟩ := h
  have HN := hide h1
  have HD := hide h2
  obtain ⟨a, n, c, rfl, _, _⟩ := h1
  obtain ⟨a2, n2, c2, rfl, hl2, _⟩ := h2
  obtain ⟨s, hs⟩ : ∃ s, decide (q.num < 0) = s := ⟨_, rfl⟩
  rw [hs]
  obtain ⟨W, hW⟩ : ∃ W, w.alloc (.cells #[.bool s, .slice a n c, .slice a2 n2 c2] 37) = W := ⟨_, rfl⟩
  have hbW : Below w.heap.size w W := by rw [← hW]; exact alloc_below _ _
  have S0 : ∀ w', Below W.heap.size W w' → w'.cell? ⟨w.heap.size, 0, none⟩ = some (.bool s) ∧ w'.cell? ⟨w.heap.size, 1, none⟩ = some (.slice a n c) ∧ w'.cell? ⟨w.heap.size, 2, none⟩ = some (.slice a2 n2 c2) := fun w' h => by
    rw [← hW] at h
    exact one_box h
  have TN := text_small (.slice a n c) _ W ((unhide HN).below hbW) hn (tab_below htab hbW)
  have TD : ∀ w1, Below W.heap.size W w1 → Calls Tryz.prog 93 #[.slice a2 n2 c2] w1 fun e w' => e = .returned (.string ⟨(Lib.decDigits (low q.den).toNat).toArray⟩) ∧ Below W.heap.size W w' := fun w1 h1 =>
    (text_small _ _ w1 (((unhide HD).below hbW).below h1) (by unfold low; split <;> omega) (tab_below (tab_below htab hbW) h1)).mono (by rintro e w' ⟨rfl, h⟩; exact ⟨rfl, below_step h1 h⟩)
  obtain ⟨tN, htN⟩ : ∃ t, (⟨(Lib.decDigits (q.num.natAbs : Int).toNat).toArray⟩ : ByteArray) = t := ⟨_, rfl⟩
  obtain ⟨tD, htD⟩ : ∃ t, (⟨(Lib.decDigits (low q.den).toNat).toArray⟩ : ByteArray) = t := ⟨_, rfl⟩
  rw [htN] at TN
  rw [htD] at TD
  have sN : tN.size ≤ 20 := by rw [← htN]; exact (by simpa using dec_small (q.num.natAbs : Int).toNat (by omega) : (Lib.decDigits (q.num.natAbs : Int).toNat).toArray.size ≤ 20)
  have sD : tD.size ≤ 20 := by
    rw [← htD]
    have : (low q.den).toNat < 18446744073709551616 := by unfold low; split <;> omega
    exact (by simpa using dec_small (low q.den).toNat this : (Lib.decDigits (low q.den).toNat).toArray.size ≤ 20)
  obtain ⟨t1, ht1⟩ : ∃ t, (⟨#[45]⟩ : ByteArray) ++ tN = t := ⟨_, rfl⟩
  obtain ⟨t2, ht2⟩ : ∃ t, (⟨#[47]⟩ : ByteArray) ++ tD = t := ⟨_, rfl⟩
  have e45 : (⟨#[45]⟩ : ByteArray).size = 1 := rfl
  have e47 : (⟨#[47]⟩ : ByteArray).size = 1 := rfl
  have s1 : t1.size ≤ 21 := by rw [← ht1, ByteArray.size_append, e45]; omega
  have s2 : t2.size ≤ 21 := by rw [← ht2, ByteArray.size_append, e47]; omega
  obtain ⟨t3, ht3⟩ : ∃ t, tN ++ t2 = t := ⟨_, rfl⟩
  obtain ⟨t4, ht4⟩ : ∃ t, t1 ++ t2 = t := ⟨_, rfl⟩
  have r1 : ∀ w, (Op.stringOp .add ⟨#[45]⟩ tN).run Tryz.prog w = .ok (.string t1) w := fun w => by rw [run_string_add_sum _ _ _ (by rw [e45]; omega), ht1]
  have r2 : ∀ w, (Op.stringOp .add ⟨#[47]⟩ tD).run Tryz.prog w = .ok (.string t2) w := fun w => by rw [run_string_add_sum _ _ _ (by rw [e47]; omega), ht2]
  have r3 : ∀ w, (Op.stringOp .add tN t2).run Tryz.prog w = .ok (.string t3) w := fun w => by rw [run_string_add_sum _ _ _ (by omega), ht3]
  have r4 : ∀ w, (Op.stringOp .add t1 t2).run Tryz.prog w = .ok (.string t4) w := fun w => by rw [run_string_add_sum _ _ _ (by omega), ht4]
  have l1 : t1.data.toList = 45 :: Lib.decDigits q.num.natAbs := by rw [← ht1, ← htN]; simp
  have l3 : t3.data.toList = Lib.decDigits q.num.natAbs ++ 47 :: Lib.decDigits (low q.den).toNat := by rw [← ht3, ← ht2, ← htN, ← htD]; simp
  have l4 : t4.data.toList = 45 :: (Lib.decDigits q.num.natAbs ++ 47 :: Lib.decDigits (low q.den).toNat) := by rw [← ht4, ← ht2, ← ht1, ← htN, ← htD]; simp
  have HtN := hide htN
  have HtD := hide htD
  have L1 := hide l1
  have L3 := hide l3
  have L4 := hide l4
  clear htN htD sN sD s1 s2 ht1 ht2 ht3 ht4 e45 e47 l1 l3 l4
  have ⟨k0, k1, k2⟩ := S0 W (Below.refl _ _)
  have HS0 := hide S0
  have HTN := hide TN
  have HTD := hide TD
  have HWE := hide hW
  have HBW := hide hbW
  clear hW hbW S0 TN TD htab
  by_cases hd1 : q.den = 1
  · have hn2 : n2 = 0 := by
      rw [hd1] at hl2
      rcases hl2.2.2 with h | h
      · exact h
      · have := Wd.pw_pos (n2 - 1); simp [low] at h; omega
    subst hn2
    have HQ : Hid (qtext q = (if s then [45] else []) ++ Lib.decDigits q.num.natAbs) := by
      show qtext q = _
      rw [← hs]; simp [qtext, upperText, hd1]
    clear hs hl2
    cases s
    · go_enter Tryz.func49, Tryz.ntmps49
      go_wp2_with fail
      rw [unhide HWE]
      refine (unhide HTN).mono ?_
      rintro e w1 ⟨rfl, hb1⟩
      have ⟨g0, g1, g2⟩ := unhide HS0 _ hb1
      go_wp2
      go_ret
      refine ⟨?_, below_step (unhide HBW) hb1⟩
      rewrite [unhide HQ, ← unhide HtN]
      rfl
    · go_enter Tryz.func49, Tryz.ntmps49
      go_wp2_with fail
      rw [unhide HWE]
      refine (unhide HTN).mono ?_
      rintro e w1 ⟨rfl, hb1⟩
      have ⟨g0, g1, g2⟩ := unhide HS0 _ hb1
      go_wp2
      go_ret
      refine ⟨?_, below_step (unhide HBW) hb1⟩
      rewrite [unhide HQ]
      exact congrArg (fun t => Ending.returned (Value.string t)) (bytes_of (unhide L1))
  · have hn2 : n2 ≠ 0 := by
      intro h; subst h
      have := hl2.zero
      have := q.den_nz
      unfold low at *
      split at * <;> omega
    have z2 : 0 < n2 := by omega
    have HQ : Hid (qtext q = ((if s then [45] else []) ++ Lib.decDigits q.num.natAbs) ++ (47 :: Lib.decDigits (low q.den).toNat)) := by
      show qtext q = _
      rw [← hs]; simp [qtext, upperText, hd1, low]
    clear hs hl2 hn2 hd1 hn hd
    cases s
    · go_enter Tryz.func49, Tryz.ntmps49
      go_wp2_with fail
      rw [unhide HWE]
      refine (unhide HTN).mono ?_
      rintro e w1 ⟨rfl, hb1⟩
      have ⟨g0, g1, g2⟩ := unhide HS0 _ hb1
      have HB1 := hide hb1
      clear hb1
      go_wp2_with fail
      refine (unhide HTD _ (unhide HB1)).mono ?_
      rintro e w2 ⟨rfl, hb2⟩
      go_wp2
      go_ret
      refine ⟨?_, below_step (unhide HBW) hb2⟩
      rewrite [unhide HQ]
      exact congrArg (fun t => Ending.returned (Value.string t)) (bytes_of (unhide L3))
    · go_enter Tryz.func49, Tryz.ntmps49
      go_wp2_with fail
      rw [unhide HWE]
      refine (unhide HTN).mono ?_
      rintro e w1 ⟨rfl, hb1⟩
      have ⟨g0, g1, g2⟩ := unhide HS0 _ hb1
      have HB1 := hide hb1
      clear hb1
      go_wp2_with fail
      refine (unhide HTD _ (unhide HB1)).mono ?_
      rintro e w2 ⟨rfl, hb2⟩
      go_wp2
      go_ret
      refine ⟨?_, below_step (unhide HBW) hb2⟩
      rewrite [unhide HQ]
      exact congrArg (fun t => Ending.returned (Value.string t)) (bytes_of (unhide L4))
end Go.Proofs.YtcelbgleajpenaaGreatDoor
