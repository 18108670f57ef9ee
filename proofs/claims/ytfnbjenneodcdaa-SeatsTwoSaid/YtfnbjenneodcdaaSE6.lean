/- seats.Check, checkSeats. -/
import Derived.Test.YtfnbjenneodcdaaSE5
namespace Go.Proofs.Ytfnbjenneodcdaa
open Go.RowKit Go.Sort Go.Shelf

/-- A fare of a row, read. -/
theorem FaresAre.at {w : World} {a : Option Addr} {n c : Nat} {ks : List (Int × List Rat)} (h : FaresAre w (.slice a n c) ks) {j : Nat} (hj : j < ks.length) : ∃ (b o : Nat) (l : Sl), a = some ⟨b, o, none⟩ ∧ b < w.heap.size ∧ w.cell? ⟨b, o + j * 2, none⟩ = some (.int .i64 (ks[j]!).1) ∧ w.cell? ⟨b, o + j * 2 + 1, none⟩ = some (.slice l.a (ks[j]!).2.length l.c) ∧ LawIs w l.val (ks[j]!).2 := by
  obtain ⟨a', c', e, h1, h2, h3⟩ := h
  injection e with e1 e2 e3
  obtain ⟨b, o, ea, hlt, hc⟩ := h3 (by omega)
  obtain ⟨p, l, ⟨k0, k1⟩, hp, hl⟩ := hc j hj
  rw [hp] at k0
  have hln := law_len hl
  rw [hln] at k1
  exact ⟨b, o, l, by rw [e1, ea], hlt, k0, k1, hl⟩
set_option maxHeartbeats 16000000 in
set_option maxRecDepth 100000 in
set_option linter.unusedSimpArgs false in
theorem fcheck_any (v : Value) (ks : List (Int × List Rat)) (w : World) (h : FaresAre w v ks) (sm : SmF ks) : Calls Try.prog 13 #[v] w (ErrPost w (fcode ks)) := by
  obtain ⟨a, c, rfl, h1, h2, h3⟩ := id h
  clear h3
  obtain ⟨n, hn⟩ : ∃ n, ks.length = n := ⟨_, rfl⟩
  have HN := hide hn
  rw [hn] at h h1 ⊢
  have HF := hide h
  have HSM := hide sm
  have hn4 : n ≤ 4 := by rw [← hn]; exact sm.n
  clear h hn sm
  go_enter Try.func13, Try.ntmps13
  by_cases hx : 1 ≤ n ∧ n ≤ 8
  rotate_left
  · have HE : Hid (fcode ks = 4) := by
      show fcode ks = 4
      unfold fcode
      rw [if_neg (fun x => hx (by rw [← unhide HN]; exact x))]
    have h1' : (n : Int) < 1 := by omega
    go_wp2
    go_ret
    exact ⟨by rw [unhide HE]; rfl, Below.refl _ _⟩
  obtain ⟨hx1, hx2⟩ := hx
  have f1 : ¬ (n : Int) < 1 := by omega
  have f2 : ¬ (8 : Int) < (n : Int) := by omega
  go_wp2_with fail
  clear f1 f2
  go_loopw [17] (fun vi wr => ∃ j : Nat, vi = .int .i64 (j : Int) ∧ j ≤ n ∧ fcd ks j = 0 ∧ Below w.heap.size w wr) (fun vi _ => n - (intOf vi).toNat)
  case atStart => exact ⟨0, rfl, Nat.zero_le _, rfl, Below.refl _ _⟩
  case round =>
    obtain ⟨j, rfl, hj, hz, hb⟩ := hrel
    have HB := hide hb
    have HZ := hide hz
    by_cases hlt : j < n
    · have f1 : (j : Int) < (n : Int) := by omega
      have f0 : (0 : Int) ≤ (j : Int) := by omega
      obtain ⟨b_, o_, l, ea, hbk, k0, k1, hL⟩ := ((unhide HF).below hb).at (j := j) (by rw [unhide HN]; exact hlt)
      subst ea
      obtain ⟨p, hp⟩ : ∃ p, (ks[j]!).1 = p := ⟨_, rfl⟩
      obtain ⟨qs, hq⟩ : ∃ qs, (ks[j]!).2 = qs := ⟨_, rfl⟩
      obtain ⟨ln, hln⟩ : ∃ x, qs.length = x := ⟨_, rfl⟩
      rw [hp] at k0
      rw [hq, hln] at k1
      rw [hq] at hL
      have b5 := alloc_below wr (.cells #[.int .i64 p, .slice l.a ln l.c] 39)
      have n5 := heap_alloc_new wr (.cells #[.int .i64 p, .slice l.a ln l.c] 39)
      obtain ⟨W5, hW5⟩ : ∃ W, wr.alloc (.cells #[.int .i64 p, .slice l.a ln l.c] 39) = W := ⟨_, rfl⟩
      obtain ⟨bf, hbf⟩ : ∃ b, wr.heap.size = b := ⟨_, rfl⟩
      rw [hW5] at b5 n5
      rw [hbf] at n5
      have HL5 := hide (hL.below b5)
      have HB5 := hide (below_step hb b5)
      have HN5 := hide n5
      have hbl := (Array.getElem?_eq_some_iff.1 n5).1
      have HCF : Hid (∀ W, Below W5.heap.size W5 W → W.cell? ⟨bf, 0, none⟩ = some (.int .i64 p) ∧ W.cell? ⟨bf, 1, none⟩ = some (.slice l.a ln l.c)) := fun W hW => by
        have h2 : W.heap[bf]? = _ := (hW.block bf hbl).trans (unhide HN5)
        simp [World.cell?, h2]
      have HCH : Hid (∀ W, Below W5.heap.size W5 W → Calls Try.prog 24 #[.slice l.a ln l.c] W fun e w' => e = .returned (errV (chk qs)) ∧ Below W.heap.size W w') := fun W hW => by
        have hl8 : qs.length ≤ 8 := by rw [← hq]; exact (unhide HSM).k j (by rw [unhide HN]; exact hlt)
        have := check_any l.val qs 1 W ((unhide HL5).below hW) (fun i hi => by rw [← hq] at hi ⊢; exact (unhide HSM).r j i (by rw [unhide HN]; exact hlt) hi) (by rw [KKe]; omega)
        have e2 := law_len hL
        rw [hln] at e2
        rw [show l.val = .slice l.a ln l.c from by show Value.slice l.a l.n l.c = _; rw [e2]] at this
        exact this
      have HPJ := hide hp
      have HQJ := hide hq
      have ⟨z0, z1⟩ := unhide HCF _ (Below.refl _ _)
      by_cases hbad : p < 1 ∨ 100000 < p
      · have HE : Hid (fcode ks = 2) := fcode_end (by rw [unhide HN]; exact ⟨hx1, hx2⟩) (by rw [unhide HN]; exact hlt) hz (by unfold fst_; rw [hp, if_pos hbad]) (by decide)
        clear hL n5 b5 hp hq hln hb hz hbl
        by_cases hp1 : p < 1
        · go_wp2
          go_ret
          exact ⟨by rw [unhide HE]; rfl, unhide HB5⟩
        · have hp2 : 100000 < p := by omega
          go_wp2
          go_ret
          exact ⟨by rw [unhide HE]; rfl, unhide HB5⟩
      have hp1 : ¬ p < 1 := fun x => hbad (Or.inl x)
      have hp2 : ¬ 100000 < p := fun x => hbad (Or.inr x)
      have HS0 : Hid (∀ y, (0 < j → (ks[j - 1]!).1 = y) → fst_ ks j = if 0 < j ∧ y < p then 12 else chk qs) := fun y hy => by
        unfold fst_
        rw [unhide HPJ, if_neg hbad, unhide HQJ]
        by_cases hj0 : 0 < j
        · rw [hy hj0]
        · rw [if_neg (fun x => hj0 x.1), if_neg (fun x => hj0 x.1)]
      by_cases hj0 : 0 < j
      · obtain ⟨jm, hjm⟩ : ∃ jm, j - 1 = jm := ⟨_, rfl⟩
        have hw1 : IntKind.i64.wrap ((j : Int) - 1) = (jm : Int) := by rw [IntKind.wrap_i64]; omega
        obtain ⟨b2_, o2_, l2, ea2, _, q0, q1, _⟩ := ((unhide HF).below hb).at (j := jm) (by rw [unhide HN]; omega)
        injection ea2 with ea2
        injection ea2 with eb2 eo2
        subst eb2 eo2
        obtain ⟨p0, hp0⟩ : ∃ p0, (ks[jm]!).1 = p0 := ⟨_, rfl⟩
        rw [hp0] at q0
        have HST0 := hide (unhide HS0 p0 (fun _ => by rw [hjm, hp0]))
        have g1 : decide (0 < j) = true := decide_eq_true hj0
        have g2 : decide ((0 : Int) < (j : Int)) = true := decide_eq_true (by omega)
        have g3 : (0 : Int) ≤ (jm : Int) := by omega
        have g4 : (jm : Int) < (n : Int) := by omega
        have HCC : Hid (∀ W, Below W5.heap.size W5 W → (fun w' : World => (w'.cell? ⟨bf, 0, none⟩ = some (.int .i64 p)) ∧ w'.cell? ⟨b_, o_ + jm * 2, none⟩ = some (.int .i64 p0)) W) := fun W hW => ⟨(unhide HCF W hW).1, by rw [(below_step b5 hW).cell (p := ⟨b_, o_ + jm * 2, none⟩) hbk]; exact q0⟩
        clear hL n5 b5 hp hq hln hb hz hbl q0 q1 hp0 hbad
        by_cases hord : p0 < p
        · have HE : Hid (fcode ks = 12) := fcode_end (by rw [unhide HN]; exact ⟨hx1, hx2⟩) (by rw [unhide HN]; exact hlt) (unhide HZ) (by rw [unhide HST0, if_pos ⟨hj0, hord⟩]) (by decide)
          have g5 : decide (p0 < p) = true := decide_eq_true hord
          go_wp2_with fail
          clear z0 z1
          refine wp_region_hold (fun w' : World => (w'.cell? ⟨bf, 0, none⟩ = some (.int .i64 p)) ∧ w'.cell? ⟨b_, o_ + jm * 2, none⟩ = some (.int .i64 p0)) (by kernel_rfl) ?_
          have bd0 : Below W5.heap.size W5 W5.drew := (Below.refl _ _).drew
          have hC0 : (fun w' : World => (w'.cell? ⟨bf, 0, none⟩ = some (.int .i64 p)) ∧ w'.cell? ⟨b_, o_ + jm * 2, none⟩ = some (.int .i64 p0)) W5.drew := unhide HCC _ bd0
          refine wpHold_take (i := 0) (v := ?_) rfl (by kernel_rfl) (by kernel_rfl) (by kernel_rfl) (fun _ _ _ h => h) (Or.inl ⟨by rfl, ?_⟩) hC0 ?_
          rotate_left
          · intro w hSw; clear hSw; go_simp; (try with_reducible rfl)
          (try simp only [List.getElem_toArray, List.getElem_cons_succ, List.getElem_cons_zero])
          (try simp only [Act.put, List.setIfInBounds_toArray, List.set_cons_zero, List.set_cons_succ])
          refine wpHold_take (i := 1) (v := ?_) rfl (by kernel_rfl) (by kernel_rfl) (by kernel_rfl) (fun _ _ _ h => h) (Or.inl ⟨by rfl, ?_⟩) hC0 ?_
          rotate_left
          · intro w hSw; clear hSw; go_simp; (try with_reducible rfl)
          (try simp only [List.getElem_toArray, List.getElem_cons_succ, List.getElem_cons_zero])
          (try simp only [Act.put, List.setIfInBounds_toArray, List.set_cons_zero, List.set_cons_succ])
          refine wpHold_take (i := 2) (v := ?_) rfl (by kernel_rfl) (by kernel_rfl) (by kernel_rfl) (fun _ _ _ h => h) (Or.inl ⟨by rfl, ?_⟩) hC0 ?_
          rotate_left
          · intro w hSw; clear hSw; go_simp; (try with_reducible rfl)
          (try simp only [List.getElem_toArray, List.getElem_cons_succ, List.getElem_cons_zero])
          (try simp only [Act.put, List.setIfInBounds_toArray, List.set_cons_zero, List.set_cons_succ])
          refine wpHold_take (i := 3) (v := ?_) rfl (by kernel_rfl) (by kernel_rfl) (by kernel_rfl) (fun _ _ _ h => h) (Or.inl ⟨by rfl, ?_⟩) hC0 ?_
          rotate_left
          · intro w hSw; clear hSw; go_simp; (try with_reducible rfl)
          (try simp only [List.getElem_toArray, List.getElem_cons_succ, List.getElem_cons_zero])
          (try simp only [Act.put, List.setIfInBounds_toArray, List.set_cons_zero, List.set_cons_succ])
          refine wpHold_take (i := 4) (v := ?_) rfl (by kernel_rfl) (by kernel_rfl) (by kernel_rfl) (fun _ _ _ h => h) (Or.inl ⟨by rfl, ?_⟩) hC0 ?_
          rotate_left
          · intro w hSw; (try dsimp only at hSw); obtain ⟨u0, u1⟩ := hSw; go_simp; (try with_reducible rfl)
          (try simp only [List.getElem_toArray, List.getElem_cons_succ, List.getElem_cons_zero])
          (try simp only [Act.put, List.setIfInBounds_toArray, List.set_cons_zero, List.set_cons_succ])
          refine wpHold_take (i := 5) (v := ?_) rfl (by kernel_rfl) (by kernel_rfl) (by kernel_rfl) (fun _ _ _ h => h) (Or.inl ⟨by rfl, ?_⟩) hC0 ?_
          rotate_left
          · intro w hSw; clear hSw; go_simp; (try with_reducible rfl)
          (try simp only [List.getElem_toArray, List.getElem_cons_succ, List.getElem_cons_zero])
          (try simp only [Act.put, List.setIfInBounds_toArray, List.set_cons_zero, List.set_cons_succ])
          refine wpHold_take (i := 6) (v := ?_) rfl (by kernel_rfl) (by kernel_rfl) (by kernel_rfl) (fun _ _ _ h => h) (Or.inl ⟨by rfl, ?_⟩) hC0 ?_
          rotate_left
          · intro w hSw; clear hSw; go_simp; (try with_reducible rfl)
          (try simp only [List.getElem_toArray, List.getElem_cons_succ, List.getElem_cons_zero])
          (try simp only [Act.put, List.setIfInBounds_toArray, List.set_cons_zero, List.set_cons_succ])
          refine wpHold_take (i := 7) (v := ?_) rfl (by kernel_rfl) (by kernel_rfl) (by kernel_rfl) (fun _ _ _ h => h) (Or.inl ⟨by rfl, ?_⟩) hC0 ?_
          rotate_left
          · intro w hSw; clear hSw; go_simp; (try with_reducible rfl)
          (try simp only [List.getElem_toArray, List.getElem_cons_succ, List.getElem_cons_zero])
          (try simp only [Act.put, List.setIfInBounds_toArray, List.set_cons_zero, List.set_cons_succ])
          refine wpHold_take (i := 8) (v := ?_) rfl (by kernel_rfl) (by kernel_rfl) (by kernel_rfl) (fun _ _ _ h => h) (Or.inl ⟨by rfl, ?_⟩) hC0 ?_
          rotate_left
          · intro w hSw; clear hSw; go_simp; (try with_reducible rfl)
          (try simp only [List.getElem_toArray, List.getElem_cons_succ, List.getElem_cons_zero])
          (try simp only [Act.put, List.setIfInBounds_toArray, List.set_cons_zero, List.set_cons_succ])
          refine wpHold_take (i := 9) (v := ?_) rfl (by kernel_rfl) (by kernel_rfl) (by kernel_rfl) (fun _ _ _ h => h) (Or.inl ⟨by rfl, ?_⟩) hC0 ?_
          rotate_left
          · intro w hSw; clear hSw; go_simp; (try with_reducible rfl)
          (try simp only [List.getElem_toArray, List.getElem_cons_succ, List.getElem_cons_zero])
          (try simp only [Act.put, List.setIfInBounds_toArray, List.set_cons_zero, List.set_cons_succ])
          refine wpHold_take (i := 10) (v := ?_) rfl (by kernel_rfl) (by kernel_rfl) (by kernel_rfl) (fun _ _ _ h => h) (Or.inl ⟨by rfl, ?_⟩) hC0 ?_
          rotate_left
          · intro w hSw; (try dsimp only at hSw); obtain ⟨u0, u1⟩ := hSw; go_simp; (try with_reducible rfl)
          (try simp only [List.getElem_toArray, List.getElem_cons_succ, List.getElem_cons_zero])
          (try simp only [Act.put, List.setIfInBounds_toArray, List.set_cons_zero, List.set_cons_succ])
          refine wpHold_take (i := 11) (v := ?_) rfl (by kernel_rfl) (by kernel_rfl) (by kernel_rfl) (fun _ _ _ h => h) (Or.inl ⟨by rfl, ?_⟩) hC0 ?_
          rotate_left
          · intro w hSw; clear hSw; go_simp; (try with_reducible rfl)
          (try simp only [List.getElem_toArray, List.getElem_cons_succ, List.getElem_cons_zero])
          (try simp only [Act.put, List.setIfInBounds_toArray, List.set_cons_zero, List.set_cons_succ])
          refine wpHold_take (i := 12) (v := ?_) rfl (by kernel_rfl) (by kernel_rfl) (by kernel_rfl) (fun _ _ _ h => h) (Or.inl ⟨by rfl, ?_⟩) hC0 ?_
          rotate_left
          · intro w hSw; clear hSw; go_simp; (try with_reducible rfl)
          (try simp only [List.getElem_toArray, List.getElem_cons_succ, List.getElem_cons_zero])
          (try simp only [Act.put, List.setIfInBounds_toArray, List.set_cons_zero, List.set_cons_succ])
          refine wpHold_done (by kernel_rfl) ?_ _
          have HBD := hide (below_step (unhide HB5) bd0)
          clear hC0 bd0
          go_wp2
          go_ret
          exact ⟨by rw [unhide HE]; rfl, unhide HBD⟩
        · have g5 : decide (p0 < p) = false := decide_eq_false hord
          have HST : Hid (fst_ ks j = chk qs) := by
            show fst_ ks j = chk qs
            rw [unhide HST0, if_neg (fun x => hord x.2)]
          go_wp2_with fail
          clear z0 z1
          refine wp_region_hold (fun w' : World => (w'.cell? ⟨bf, 0, none⟩ = some (.int .i64 p)) ∧ w'.cell? ⟨b_, o_ + jm * 2, none⟩ = some (.int .i64 p0)) (by kernel_rfl) ?_
          have bd0 : Below W5.heap.size W5 W5.drew := (Below.refl _ _).drew
          have hC0 : (fun w' : World => (w'.cell? ⟨bf, 0, none⟩ = some (.int .i64 p)) ∧ w'.cell? ⟨b_, o_ + jm * 2, none⟩ = some (.int .i64 p0)) W5.drew := unhide HCC _ bd0
          refine wpHold_take (i := 0) (v := ?_) rfl (by kernel_rfl) (by kernel_rfl) (by kernel_rfl) (fun _ _ _ h => h) (Or.inl ⟨by rfl, ?_⟩) hC0 ?_
          rotate_left
          · intro w hSw; clear hSw; go_simp; (try with_reducible rfl)
          (try simp only [List.getElem_toArray, List.getElem_cons_succ, List.getElem_cons_zero])
          (try simp only [Act.put, List.setIfInBounds_toArray, List.set_cons_zero, List.set_cons_succ])
          refine wpHold_take (i := 1) (v := ?_) rfl (by kernel_rfl) (by kernel_rfl) (by kernel_rfl) (fun _ _ _ h => h) (Or.inl ⟨by rfl, ?_⟩) hC0 ?_
          rotate_left
          · intro w hSw; clear hSw; go_simp; (try with_reducible rfl)
          (try simp only [List.getElem_toArray, List.getElem_cons_succ, List.getElem_cons_zero])
          (try simp only [Act.put, List.setIfInBounds_toArray, List.set_cons_zero, List.set_cons_succ])
          refine wpHold_take (i := 2) (v := ?_) rfl (by kernel_rfl) (by kernel_rfl) (by kernel_rfl) (fun _ _ _ h => h) (Or.inl ⟨by rfl, ?_⟩) hC0 ?_
          rotate_left
          · intro w hSw; clear hSw; go_simp; (try with_reducible rfl)
          (try simp only [List.getElem_toArray, List.getElem_cons_succ, List.getElem_cons_zero])
          (try simp only [Act.put, List.setIfInBounds_toArray, List.set_cons_zero, List.set_cons_succ])
          refine wpHold_take (i := 3) (v := ?_) rfl (by kernel_rfl) (by kernel_rfl) (by kernel_rfl) (fun _ _ _ h => h) (Or.inl ⟨by rfl, ?_⟩) hC0 ?_
          rotate_left
          · intro w hSw; clear hSw; go_simp; (try with_reducible rfl)
          (try simp only [List.getElem_toArray, List.getElem_cons_succ, List.getElem_cons_zero])
          (try simp only [Act.put, List.setIfInBounds_toArray, List.set_cons_zero, List.set_cons_succ])
          refine wpHold_take (i := 4) (v := ?_) rfl (by kernel_rfl) (by kernel_rfl) (by kernel_rfl) (fun _ _ _ h => h) (Or.inl ⟨by rfl, ?_⟩) hC0 ?_
          rotate_left
          · intro w hSw; (try dsimp only at hSw); obtain ⟨u0, u1⟩ := hSw; go_simp; (try with_reducible rfl)
          (try simp only [List.getElem_toArray, List.getElem_cons_succ, List.getElem_cons_zero])
          (try simp only [Act.put, List.setIfInBounds_toArray, List.set_cons_zero, List.set_cons_succ])
          refine wpHold_take (i := 5) (v := ?_) rfl (by kernel_rfl) (by kernel_rfl) (by kernel_rfl) (fun _ _ _ h => h) (Or.inl ⟨by rfl, ?_⟩) hC0 ?_
          rotate_left
          · intro w hSw; clear hSw; go_simp; (try with_reducible rfl)
          (try simp only [List.getElem_toArray, List.getElem_cons_succ, List.getElem_cons_zero])
          (try simp only [Act.put, List.setIfInBounds_toArray, List.set_cons_zero, List.set_cons_succ])
          refine wpHold_take (i := 6) (v := ?_) rfl (by kernel_rfl) (by kernel_rfl) (by kernel_rfl) (fun _ _ _ h => h) (Or.inl ⟨by rfl, ?_⟩) hC0 ?_
          rotate_left
          · intro w hSw; clear hSw; go_simp; (try with_reducible rfl)
          (try simp only [List.getElem_toArray, List.getElem_cons_succ, List.getElem_cons_zero])
          (try simp only [Act.put, List.setIfInBounds_toArray, List.set_cons_zero, List.set_cons_succ])
          refine wpHold_take (i := 7) (v := ?_) rfl (by kernel_rfl) (by kernel_rfl) (by kernel_rfl) (fun _ _ _ h => h) (Or.inl ⟨by rfl, ?_⟩) hC0 ?_
          rotate_left
          · intro w hSw; clear hSw; go_simp; (try with_reducible rfl)
          (try simp only [List.getElem_toArray, List.getElem_cons_succ, List.getElem_cons_zero])
          (try simp only [Act.put, List.setIfInBounds_toArray, List.set_cons_zero, List.set_cons_succ])
          refine wpHold_take (i := 8) (v := ?_) rfl (by kernel_rfl) (by kernel_rfl) (by kernel_rfl) (fun _ _ _ h => h) (Or.inl ⟨by rfl, ?_⟩) hC0 ?_
          rotate_left
          · intro w hSw; clear hSw; go_simp; (try with_reducible rfl)
          (try simp only [List.getElem_toArray, List.getElem_cons_succ, List.getElem_cons_zero])
          (try simp only [Act.put, List.setIfInBounds_toArray, List.set_cons_zero, List.set_cons_succ])
          refine wpHold_take (i := 9) (v := ?_) rfl (by kernel_rfl) (by kernel_rfl) (by kernel_rfl) (fun _ _ _ h => h) (Or.inl ⟨by rfl, ?_⟩) hC0 ?_
          rotate_left
          · intro w hSw; clear hSw; go_simp; (try with_reducible rfl)
          (try simp only [List.getElem_toArray, List.getElem_cons_succ, List.getElem_cons_zero])
          (try simp only [Act.put, List.setIfInBounds_toArray, List.set_cons_zero, List.set_cons_succ])
          refine wpHold_take (i := 10) (v := ?_) rfl (by kernel_rfl) (by kernel_rfl) (by kernel_rfl) (fun _ _ _ h => h) (Or.inl ⟨by rfl, ?_⟩) hC0 ?_
          rotate_left
          · intro w hSw; (try dsimp only at hSw); obtain ⟨u0, u1⟩ := hSw; go_simp; (try with_reducible rfl)
          (try simp only [List.getElem_toArray, List.getElem_cons_succ, List.getElem_cons_zero])
          (try simp only [Act.put, List.setIfInBounds_toArray, List.set_cons_zero, List.set_cons_succ])
          refine wpHold_take (i := 11) (v := ?_) rfl (by kernel_rfl) (by kernel_rfl) (by kernel_rfl) (fun _ _ _ h => h) (Or.inl ⟨by rfl, ?_⟩) hC0 ?_
          rotate_left
          · intro w hSw; clear hSw; go_simp; (try with_reducible rfl)
          (try simp only [List.getElem_toArray, List.getElem_cons_succ, List.getElem_cons_zero])
          (try simp only [Act.put, List.setIfInBounds_toArray, List.set_cons_zero, List.set_cons_succ])
          refine wpHold_take (i := 12) (v := ?_) rfl (by kernel_rfl) (by kernel_rfl) (by kernel_rfl) (fun _ _ _ h => h) (Or.inl ⟨by rfl, ?_⟩) hC0 ?_
          rotate_left
          · intro w hSw; clear hSw; go_simp; (try with_reducible rfl)
          (try simp only [List.getElem_toArray, List.getElem_cons_succ, List.getElem_cons_zero])
          (try simp only [Act.put, List.setIfInBounds_toArray, List.set_cons_zero, List.set_cons_succ])
          refine wpHold_done (by kernel_rfl) ?_ _
          clear hC0
          have ⟨y0, y1⟩ := unhide HCF _ bd0
          have HCK := hide (unhide HCH _ bd0)
          have HBD := hide (below_step (unhide HB5) bd0)
          clear bd0
          go_wp2_with fail
          clear y0 y1
          refine (unhide HCK).mono ?_
          rintro e w7 ⟨rfl, hb7⟩
          have HB7 := hide (below_step (unhide HBD) hb7)
          obtain ⟨z, hz⟩ : ∃ z, chk qs = z := ⟨_, rfl⟩
          rw [hz] at HST ⊢
          clear hz hb7 HCK
          by_cases hz0 : z = 0
          · subst hz0
            have e5 : errV 0 = .nilIface := rfl
            rw [e5]
            have HNX : Hid (fcd ks (j + 1) = 0) := by show fcd ks (j + 1) = 0; rw [fcd_next (unhide HZ), unhide HST]
            go_wp2_with fail
            exact ⟨⟨j + 1, by go_num, hlt, unhide HNX, unhide HB7⟩, by simp [intOf]; omega⟩
          · have e5 : errV z = .iface 52 (.int .i64 z) := by unfold errV; rw [if_neg hz0]
            rw [e5]
            have HE2 : Hid (fcode ks = z) := fcode_end (by rw [unhide HN]; exact ⟨hx1, hx2⟩) (by rw [unhide HN]; exact hlt) (unhide HZ) (unhide HST) hz0
            have HE5 := hide e5
            clear e5
            go_wp2
            go_ret
            exact ⟨by rw [unhide HE2, unhide HE5]; rfl, unhide HB7⟩
      · have g1 : decide (0 < j) = false := decide_eq_false hj0
        have g2 : decide ((0 : Int) < (j : Int)) = false := decide_eq_false (by omega)
        have HTR : Hid (∀ W : World, Below W5.heap.size W5 W → (fun _ : World => True) W) := fun _ _ => trivial
        have HST : Hid (fst_ ks j = chk qs) := by
          show fst_ ks j = chk qs
          rw [unhide HS0 0 (fun x => absurd x hj0), if_neg (fun x => hj0 x.1)]
        clear hL n5 b5 hp hq hln hb hz hbl hbad
        go_wp2_with fail
        clear z0 z1
        refine wp_region_hold (fun _ : World => True) (by kernel_rfl) ?_
        have bd0 : Below W5.heap.size W5 W5.drew := (Below.refl _ _).drew
        have hC0 : (fun _ : World => True) W5.drew := unhide HTR _ bd0
        refine wpHold_take (i := 0) (v := ?_) rfl (by kernel_rfl) (by kernel_rfl) (by kernel_rfl) (fun _ _ _ h => h) (Or.inl ⟨by rfl, ?_⟩) hC0 ?_
        rotate_left
        · intro w hSw; clear hSw; go_simp; (try with_reducible rfl)
        (try simp only [List.getElem_toArray, List.getElem_cons_succ, List.getElem_cons_zero])
        (try simp only [Act.put, List.setIfInBounds_toArray, List.set_cons_zero, List.set_cons_succ])
        refine wpHold_take (i := 1) (v := ?_) rfl (by kernel_rfl) (by kernel_rfl) (by kernel_rfl) (fun _ _ _ h => h) (Or.inl ⟨by rfl, ?_⟩) hC0 ?_
        rotate_left
        · intro w hSw; clear hSw; go_simp; (try with_reducible rfl)
        (try simp only [List.getElem_toArray, List.getElem_cons_succ, List.getElem_cons_zero])
        (try simp only [Act.put, List.setIfInBounds_toArray, List.set_cons_zero, List.set_cons_succ])
        refine wpHold_take (i := 2) (v := ?_) rfl (by kernel_rfl) (by kernel_rfl) (by kernel_rfl) (fun _ _ _ h => h) (Or.inl ⟨by rfl, ?_⟩) hC0 ?_
        rotate_left
        · intro w hSw; clear hSw; go_simp; (try with_reducible rfl)
        (try simp only [List.getElem_toArray, List.getElem_cons_succ, List.getElem_cons_zero])
        (try simp only [Act.put, List.setIfInBounds_toArray, List.set_cons_zero, List.set_cons_succ])
        refine wpHold_take (i := 3) (v := undef) rfl (by kernel_rfl) (by kernel_rfl) (by kernel_rfl) (fun _ _ _ h => h) (Or.inr ⟨by rfl, rfl⟩) hC0 ?_
        (try simp only [List.getElem_toArray, List.getElem_cons_succ, List.getElem_cons_zero])
        (try simp only [Act.put, List.setIfInBounds_toArray, List.set_cons_zero, List.set_cons_succ])
        refine wpHold_take (i := 4) (v := undef) rfl (by kernel_rfl) (by kernel_rfl) (by kernel_rfl) (fun _ _ _ h => h) (Or.inr ⟨by rfl, rfl⟩) hC0 ?_
        (try simp only [List.getElem_toArray, List.getElem_cons_succ, List.getElem_cons_zero])
        (try simp only [Act.put, List.setIfInBounds_toArray, List.set_cons_zero, List.set_cons_succ])
        refine wpHold_take (i := 5) (v := undef) rfl (by kernel_rfl) (by kernel_rfl) (by kernel_rfl) (fun _ _ _ h => h) (Or.inr ⟨by rfl, rfl⟩) hC0 ?_
        (try simp only [List.getElem_toArray, List.getElem_cons_succ, List.getElem_cons_zero])
        (try simp only [Act.put, List.setIfInBounds_toArray, List.set_cons_zero, List.set_cons_succ])
        refine wpHold_take (i := 6) (v := undef) rfl (by kernel_rfl) (by kernel_rfl) (by kernel_rfl) (fun _ _ _ h => h) (Or.inr ⟨by rfl, rfl⟩) hC0 ?_
        (try simp only [List.getElem_toArray, List.getElem_cons_succ, List.getElem_cons_zero])
        (try simp only [Act.put, List.setIfInBounds_toArray, List.set_cons_zero, List.set_cons_succ])
        refine wpHold_take (i := 7) (v := undef) rfl (by kernel_rfl) (by kernel_rfl) (by kernel_rfl) (fun _ _ _ h => h) (Or.inr ⟨by rfl, rfl⟩) hC0 ?_
        (try simp only [List.getElem_toArray, List.getElem_cons_succ, List.getElem_cons_zero])
        (try simp only [Act.put, List.setIfInBounds_toArray, List.set_cons_zero, List.set_cons_succ])
        refine wpHold_take (i := 8) (v := undef) rfl (by kernel_rfl) (by kernel_rfl) (by kernel_rfl) (fun _ _ _ h => h) (Or.inr ⟨by rfl, rfl⟩) hC0 ?_
        (try simp only [List.getElem_toArray, List.getElem_cons_succ, List.getElem_cons_zero])
        (try simp only [Act.put, List.setIfInBounds_toArray, List.set_cons_zero, List.set_cons_succ])
        refine wpHold_take (i := 9) (v := undef) rfl (by kernel_rfl) (by kernel_rfl) (by kernel_rfl) (fun _ _ _ h => h) (Or.inr ⟨by rfl, rfl⟩) hC0 ?_
        (try simp only [List.getElem_toArray, List.getElem_cons_succ, List.getElem_cons_zero])
        (try simp only [Act.put, List.setIfInBounds_toArray, List.set_cons_zero, List.set_cons_succ])
        refine wpHold_take (i := 10) (v := undef) rfl (by kernel_rfl) (by kernel_rfl) (by kernel_rfl) (fun _ _ _ h => h) (Or.inr ⟨by rfl, rfl⟩) hC0 ?_
        (try simp only [List.getElem_toArray, List.getElem_cons_succ, List.getElem_cons_zero])
        (try simp only [Act.put, List.setIfInBounds_toArray, List.set_cons_zero, List.set_cons_succ])
        refine wpHold_take (i := 11) (v := undef) rfl (by kernel_rfl) (by kernel_rfl) (by kernel_rfl) (fun _ _ _ h => h) (Or.inr ⟨by rfl, rfl⟩) hC0 ?_
        (try simp only [List.getElem_toArray, List.getElem_cons_succ, List.getElem_cons_zero])
        (try simp only [Act.put, List.setIfInBounds_toArray, List.set_cons_zero, List.set_cons_succ])
        refine wpHold_take (i := 12) (v := ?_) rfl (by kernel_rfl) (by kernel_rfl) (by kernel_rfl) (fun _ _ _ h => h) (Or.inl ⟨by rfl, ?_⟩) hC0 ?_
        rotate_left
        · intro w hSw; clear hSw; go_simp; (try with_reducible rfl)
        (try simp only [List.getElem_toArray, List.getElem_cons_succ, List.getElem_cons_zero])
        (try simp only [Act.put, List.setIfInBounds_toArray, List.set_cons_zero, List.set_cons_succ])
        refine wpHold_done (by kernel_rfl) ?_ _
        clear hC0
        have ⟨y0, y1⟩ := unhide HCF _ bd0
        have HCK := hide (unhide HCH _ bd0)
        have HBD := hide (below_step (unhide HB5) bd0)
        clear bd0
        go_wp2_with fail
        clear y0 y1
        refine (unhide HCK).mono ?_
        rintro e w7 ⟨rfl, hb7⟩
        have HB7 := hide (below_step (unhide HBD) hb7)
        obtain ⟨z, hz⟩ : ∃ z, chk qs = z := ⟨_, rfl⟩
        rw [hz] at HST ⊢
        clear hz hb7 HCK
        by_cases hz0 : z = 0
        · subst hz0
          have e5 : errV 0 = .nilIface := rfl
          rw [e5]
          have HNX : Hid (fcd ks (j + 1) = 0) := by show fcd ks (j + 1) = 0; rw [fcd_next (unhide HZ), unhide HST]
          go_wp2_with fail
          exact ⟨⟨j + 1, by go_num, hlt, unhide HNX, unhide HB7⟩, by simp [intOf]; omega⟩
        · have e5 : errV z = .iface 52 (.int .i64 z) := by unfold errV; rw [if_neg hz0]
          rw [e5]
          have HE2 : Hid (fcode ks = z) := fcode_end (by rw [unhide HN]; exact ⟨hx1, hx2⟩) (by rw [unhide HN]; exact hlt) (unhide HZ) (unhide HST) hz0
          have HE5 := hide e5
          clear e5
          go_wp2
          go_ret
          exact ⟨by rw [unhide HE2, unhide HE5]; rfl, unhide HB7⟩
    · obtain rfl : j = n := by omega
      have f1 : ¬ (j : Int) < (j : Int) := by omega
      have HE : Hid (fcode ks = 0) := by
        show fcode ks = 0
        unfold fcode
        rw [if_pos (by rw [unhide HN]; exact ⟨hx1, hx2⟩), unhide HN]; exact hz
      clear hz hb
      go_wp2
      go_ret
      exact ⟨by rw [unhide HE]; rfl, unhide HB⟩

set_option maxHeartbeats 16000000 in
set_option maxRecDepth 100000 in
set_option linter.unusedSimpArgs false in
theorem fseats_any (v : Value) (ks : List (Int × List Rat)) (s : Nat) (w : World) (h : FaresAre w v ks) (sm : SmF ks) (hs : s ≤ 60) : Calls Try.prog 9 #[v, .int .i64 (s : Int)] w (ErrPost w (fcode ks)) := by
  have HCH := hide (fcheck_any v ks w h sm)
  obtain ⟨a, c, rfl, _, _, _⟩ := h
  clear sm
  go_enter Try.func9, Try.ntmps9
  go_wp2_with fail
  refine (unhide HCH).mono ?_
  rintro e w1 ⟨rfl, hb⟩
  obtain ⟨z, hz⟩ : ∃ z, fcode ks = z := ⟨_, rfl⟩
  rw [hz]
  have HB := hide hb
  have HZ := hide hz
  clear hz hb HCH
  by_cases hz0 : z = 0
  · subst hz0
    have e5 : errV 0 = .nilIface := rfl
    rw [e5]
    have f1 : ¬ (s : Int) < 0 := by omega
    have f2 : ¬ (60 : Int) < (s : Int) := by omega
    go_wp2
    go_ret
    exact ⟨by rw [unhide HZ]; rfl, unhide HB⟩
  · have e5 : errV z = .iface 52 (.int .i64 z) := by unfold errV; rw [if_neg hz0]
    rw [e5]
    have HE5 := hide e5
    clear e5
    go_wp2
    go_ret
    exact ⟨by rw [unhide HZ, unhide HE5]; rfl, unhide HB⟩
end Go.Proofs.Ytfnbjenneodcdaa
