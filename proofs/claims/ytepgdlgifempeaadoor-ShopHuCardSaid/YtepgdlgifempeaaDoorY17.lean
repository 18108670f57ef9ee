/- The longest first. -/
import Derived.Test.YtepgdlgifempeaaDoorY16
namespace Go.Proofs.YtepgdlgifempeaaDoor
open Go.RowKit Go.Sort Stb Shp Hp

set_option maxHeartbeats 8000000 in
set_option maxRecDepth 100000 in
set_option linter.unusedSimpArgs false in
theorem longest1_any (pa : Nat) (a : Option Addr) (n c : Nat) (l : Nat → Int) (wb W : World) (i k : Nat) (hi : i < n) (hk : k < n) (hn : n ≤ 60) (ha : IRow wb a n c l) (h1 : wb.cell? ⟨pa, 0, none⟩ = some (.slice a n c)) (hpa : pa < wb.heap.size) (hW : Below wb.heap.size wb W) :
    Calls Tryd.prog 44 #[.int .i64 (i : Int), .int .i64 (k : Int), .pointer (some ⟨pa, 0, none⟩)] W fun e w' => e = .returned (.int .i64 (cmpI (l k) (l i))) ∧ Below W.heap.size W w' := by
  obtain ⟨b, o, rfl, hbl, hc⟩ := ha.2.2 (by omega)
  have hi' := hc i hi
  have hk' := hc k hk
  obtain ⟨x, hx⟩ : ∃ t, l i = t := ⟨_, rfl⟩
  obtain ⟨y, hy⟩ : ∃ t, l k = t := ⟨_, rfl⟩
  rw [hx] at hi' ⊢
  rw [hy] at hk' ⊢
  have HCC : Hid (∀ W', Below W.heap.size W W' → (fun w' : World => w'.cell? ⟨pa, 0, none⟩ = some (.slice (some ⟨b, o, none⟩) n c) ∧ w'.cell? ⟨b, o + i, none⟩ = some (.int .i64 x) ∧ w'.cell? ⟨b, o + k, none⟩ = some (.int .i64 y)) W') := fun W' hW' => by
    have B := below_step hW hW'
    refine ⟨by rw [B.cell (p := ⟨pa, 0, none⟩) hpa]; exact h1, ?_, ?_⟩
    · rw [B.cell (p := ⟨b, o + i, none⟩) hbl]; exact hi'
    · rw [B.cell (p := ⟨b, o + k, none⟩) hbl]; exact hk'
  have e1 : (i : Int) < (n : Int) := by omega
  have e2 : (k : Int) < (n : Int) := by omega
  have e3 : (0 : Int) ≤ (i : Int) := by omega
  have e4 : (0 : Int) ≤ (k : Int) := by omega
  clear hi' hk' hx hy hc ha h1 hpa hW hbl hi hk
  go_enter Tryd.func44, Tryd.ntmps44
  go_wp2_with fail
  refine wp_region_hold (fun w' : World => w'.cell? ⟨pa, 0, none⟩ = some (.slice (some ⟨b, o, none⟩) n c) ∧ w'.cell? ⟨b, o + i, none⟩ = some (.int .i64 x) ∧ w'.cell? ⟨b, o + k, none⟩ = some (.int .i64 y)) (by kernel_rfl) ?_
  have bd0 : Below W.heap.size W W.drew := (Below.refl _ _).drew
  have hC0 : (fun w' : World => w'.cell? ⟨pa, 0, none⟩ = some (.slice (some ⟨b, o, none⟩) n c) ∧ w'.cell? ⟨b, o + i, none⟩ = some (.int .i64 x) ∧ w'.cell? ⟨b, o + k, none⟩ = some (.int .i64 y)) W.drew := unhide HCC _ bd0
  refine wpHold_take (i := 0) (v := ?_) rfl (by kernel_rfl) (by kernel_rfl) (by kernel_rfl) (fun _ _ _ h => h) (Or.inl ⟨by rfl, ?_⟩) hC0 ?_
  rotate_left
  · intro w hSw; (try dsimp only at hSw); obtain ⟨z0, z1, z2⟩ := hSw; go_simp; (try with_reducible rfl)
  (try simp only [List.getElem_toArray, List.getElem_cons_succ, List.getElem_cons_zero])
  (try simp only [Act.put, List.setIfInBounds_toArray, List.set_cons_zero, List.set_cons_succ])
  refine wpHold_take (i := 1) (v := ?_) rfl (by kernel_rfl) (by kernel_rfl) (by kernel_rfl) (fun _ _ _ h => h) (Or.inl ⟨by rfl, ?_⟩) hC0 ?_
  rotate_left
  · intro w hSw; clear hSw; go_simp; (try with_reducible rfl)
  (try simp only [List.getElem_toArray, List.getElem_cons_succ, List.getElem_cons_zero])
  (try simp only [Act.put, List.setIfInBounds_toArray, List.set_cons_zero, List.set_cons_succ])
  refine wpHold_take (i := 2) (v := ?_) rfl (by kernel_rfl) (by kernel_rfl) (by kernel_rfl) (fun _ _ _ h => h) (Or.inl ⟨by rfl, ?_⟩) hC0 ?_
  rotate_left
  · intro w hSw; clear hSw; go_simp; (try with_reducible rfl)
  (try simp only [List.getElem_toArray, List.getElem_cons_succ, List.getElem_cons_zero])
  (try simp only [Act.put, List.setIfInBounds_toArray, List.set_cons_zero, List.set_cons_succ])
  refine wpHold_take (i := 3) (v := ?_) rfl (by kernel_rfl) (by kernel_rfl) (by kernel_rfl) (fun _ _ _ h => h) (Or.inl ⟨by rfl, ?_⟩) hC0 ?_
  rotate_left
  · intro w hSw; (try dsimp only at hSw); obtain ⟨z0, z1, z2⟩ := hSw; go_simp; (try with_reducible rfl)
  (try simp only [List.getElem_toArray, List.getElem_cons_succ, List.getElem_cons_zero])
  (try simp only [Act.put, List.setIfInBounds_toArray, List.set_cons_zero, List.set_cons_succ])
  refine wpHold_take (i := 4) (v := ?_) rfl (by kernel_rfl) (by kernel_rfl) (by kernel_rfl) (fun _ _ _ h => h) (Or.inl ⟨by rfl, ?_⟩) hC0 ?_
  rotate_left
  · intro w hSw; (try dsimp only at hSw); obtain ⟨z0, z1, z2⟩ := hSw; go_simp; (try with_reducible rfl)
  (try simp only [List.getElem_toArray, List.getElem_cons_succ, List.getElem_cons_zero])
  (try simp only [Act.put, List.setIfInBounds_toArray, List.set_cons_zero, List.set_cons_succ])
  refine wpHold_take (i := 5) (v := ?_) rfl (by kernel_rfl) (by kernel_rfl) (by kernel_rfl) (fun _ _ _ h => h) (Or.inl ⟨by rfl, ?_⟩) hC0 ?_
  rotate_left
  · intro w hSw; clear hSw; go_simp; (try with_reducible rfl)
  (try simp only [List.getElem_toArray, List.getElem_cons_succ, List.getElem_cons_zero])
  (try simp only [Act.put, List.setIfInBounds_toArray, List.set_cons_zero, List.set_cons_succ])
  refine wpHold_take (i := 6) (v := ?_) rfl (by kernel_rfl) (by kernel_rfl) (by kernel_rfl) (fun _ _ _ h => h) (Or.inl ⟨by rfl, ?_⟩) hC0 ?_
  rotate_left
  · intro w hSw; clear hSw; go_simp; (try with_reducible rfl)
  (try simp only [List.getElem_toArray, List.getElem_cons_succ, List.getElem_cons_zero])
  (try simp only [Act.put, List.setIfInBounds_toArray, List.set_cons_zero, List.set_cons_succ])
  refine wpHold_take (i := 7) (v := ?_) rfl (by kernel_rfl) (by kernel_rfl) (by kernel_rfl) (fun _ _ _ h => h) (Or.inl ⟨by rfl, ?_⟩) hC0 ?_
  rotate_left
  · intro w hSw; (try dsimp only at hSw); obtain ⟨z0, z1, z2⟩ := hSw; go_simp; (try with_reducible rfl)
  (try simp only [List.getElem_toArray, List.getElem_cons_succ, List.getElem_cons_zero])
  (try simp only [Act.put, List.setIfInBounds_toArray, List.set_cons_zero, List.set_cons_succ])
  refine wpHold_one (k := 8) (by kernel_rfl) rfl (fun K hK => ?_)
  (try simp only [List.getElem_toArray, List.getElem_cons_succ, List.getElem_cons_zero])
  go_simp
  refine (compare_any y x _).mono ?_
  rintro e xw_1 ⟨rfl, rfl⟩
  refine hK.out _ _ hC0 ?_
  clear hK K
  (try simp only [Act.put, List.setIfInBounds_toArray, List.set_cons_zero, List.set_cons_succ])
  refine wpHold_take (i := 9) (v := ?_) rfl (by kernel_rfl) (by kernel_rfl) (by kernel_rfl) (fun _ _ _ h => h) (Or.inl ⟨by rfl, ?_⟩) hC0 ?_
  rotate_left
  · intro w hSw; clear hSw; go_simp; (try with_reducible rfl)
  (try simp only [List.getElem_toArray, List.getElem_cons_succ, List.getElem_cons_zero])
  (try simp only [Act.put, List.setIfInBounds_toArray, List.set_cons_zero, List.set_cons_succ])
  refine wpHold_done (by kernel_rfl) ?_ _
  have HBN := hide bd0
  clear hC0 bd0 HCC
  go_wp2
  go_ret
  exact ⟨rfl, unhide HBN⟩

/-- What Longest leaves. -/
def LgPost (w : World) (n : Nat) (l : Nat → Int) (e : Ending) (w' : World) : Prop :=
  Below w.heap.size w w' ∧ ((lcode n l 1 ≠ 0 ∧ e = .returned (.tuple #[.slice none 0 0, .iface 26 (.int .i64 (lcode n l 1))])) ∨ (lcode n l 1 = 0 ∧ ∃ (G : Nat) (g : Nat → Nat), w.heap.size ≤ G ∧ e = .returned (.tuple #[.slice (some ⟨G, 0, none⟩) n n, .nilIface]) ∧ OwnI w' G n (nI g) ∧ Re 0 n id g ∧ Sr (ltc (fun i k => cmpI (l k) (l i))) g 0 n))
theorem eg_l (args : Array Value) (w : World) : (callFunc 44 args).run Tryd.prog w = .ok (.enter 44 args) w := by
  go_simp

set_option maxHeartbeats 8000000 in
set_option maxRecDepth 100000 in
set_option linter.unusedSimpArgs false in
theorem longest_any (a : Option Addr) (n c : Nat) (l : Nat → Int) (w : World) (ha : IRow w a n c l) :
    Calls Tryd.prog 25 #[.slice a n c] w (LgPost w n l) := by
  obtain ⟨w1, hw1⟩ : ∃ W, w.alloc (.cells #[.slice a n c] 23) = W := ⟨_, rfl⟩
  have b1 : Below w.heap.size w w1 := by rw [← hw1]; exact alloc_below _ _
  have sz1 : w1.heap.size = w.heap.size + 1 := by rw [← hw1, alloc_size]
  obtain ⟨pa, hpa⟩ : ∃ p, w.heap.size = p := ⟨_, rfl⟩
  have ca : w1.cell? ⟨pa, 0, none⟩ = some (.slice a n c) := by rw [← hw1, ← hpa]; simp only [World.cell?, heap_alloc_new]; rfl
  have h2' := ha.2.1
  have HC := hide (checkLengths_any a n c l 1 w1 (ha.below b1))
  have HA := hide ha
  have HB1 := hide b1
  have HPA : Hid (pa < w1.heap.size) := by show pa < w1.heap.size; omega
  by_cases ht : lcode n l 1 = 0
  case neg =>
    rw [errV_not ht] at HC
    obtain ⟨k, hk⟩ : ∃ k, lcode n l 1 = k := ⟨_, rfl⟩
    rw [hk] at HC ht
    have HK := hide hk
    have HT := hide ht
    clear hk ht ha b1 sz1
    go_enter Tryd.func25, Tryd.ntmps25
    go_wp2_with fail
    refine (unhide HC).mono ?_
    rintro e w2 ⟨rfl, hb2⟩
    go_wp2
    go_ret2
    refine ⟨below_step (unhide HB1) hb2, Or.inl ?_⟩
    rw [unhide HK]
    exact ⟨unhide HT, rfl⟩
  rw [ht, errV_zero] at HC
  have gL := goodL_of ht
  have HT := hide ht
  have hn60 := gL.few
  clear ht gL ha b1 sz1
  go_enter Tryd.func25, Tryd.ntmps25
  go_wp2_with fail
  refine (unhide HC).mono ?_
  rintro e w2 ⟨rfl, hb2⟩
  have bw2 := below_step (unhide HB1) hb2
  have ca2 : w2.cell? ⟨pa, 0, none⟩ = some (.slice a n c) := by rw [hb2.cell (p := ⟨pa, 0, none⟩) (unhide HPA)]; exact ca
  have HCM : Hid (Cmps w2 n 44 #[.pointer (some ⟨pa, 0, none⟩)] (fun i k => cmpI (l k) (l i))) :=
    ⟨eg_l, fun i k W hi hk hW => longest1_any pa a n c l w2 W i k hi hk hn60 ((unhide HA).below bw2) ca2 (Nat.lt_of_lt_of_le (unhide HPA) hb2.size) hW⟩
  have HS := hide (sorted_any n 44 _ _ w2 (by omega) (unhide HCM) wo_g)
  have HBW := hide bw2
  have HSZ : Hid (w.heap.size ≤ w2.heap.size) := bw2.size
  clear HCM bw2 HA hb2
  go_wp2_with fail
  refine (unhide HS).mono ?_
  rintro e w4 ⟨G, g, hG, rfl, hO, hre, hsr, hb4⟩
  have HF : Hid (w.heap.size ≤ G ∧ OwnI w4 G n (nI g) ∧ Re 0 n id g ∧ Sr (ltc (fun i k => cmpI (l k) (l i))) g 0 n) := ⟨Nat.le_trans (unhide HSZ) hG, hO, hre, hsr⟩
  have HB4 := hide (below_step (unhide HBW) hb4)
  clear hG hO hre hsr hb4 HS
  go_wp2
  go_ret2
  obtain ⟨hG, hO, hre, hsr⟩ := unhide HF
  exact ⟨unhide HB4, Or.inr ⟨unhide HT, G, g, hG, rfl, hO, hre, hsr⟩⟩
theorem lg_key {l : Nat → Int} (x y : Nat) : ltc (fun i k => cmpI (l k) (l i)) x y = decide (l y < l x) := by
  unfold ltc
  rw [decide_eq_decide]
  exact cmpI_lt
theorem lcode_one {n : Nat} {l : Nat → Int} {m : Int} (h : GoodL n l m) : lcode n l 1 = 0 := lcode_good (by have := h.few; omega) h.l
theorem scode_re {n : Nat} {l : Nat → Int} {m : Int} {g : Nat → Nat} (hG : GoodL n l m) (h : Re 0 n id g) : scode n l m (nI g) n = 0 := by
  have ht : lcode n l m = 0 := lcode_good (by have := hG.few; have := hG.m1; have := hG.m20; omega) hG.l
  unfold scode
  rw [if_neg (by rw [ht]; decide)]
  unfold ocode
  rw [if_neg (by simp)]
  exact oc_of_good (goodR_re h) n (Nat.le_refl _)
theorem psum_all {n : Nat} {l : Nat → Int} {r : Nat → Int} (h : GoodR n r) : Lin.psum l (rl r n) = Lin.ssum l n := by
  rw [Lin.psum_perm l (rl_perm h), ← Lin.ssum_range]
  have : ∀ xs : List Nat, Lin.psum l xs = Lin.lsum l xs := fun xs => by
    induction xs with
    | nil => rfl
    | cons x xs ih => show l x + _ = l x + _; rw [ih]
  exact this _
/-- No list is done ahead of McNaughton's end. -/
theorem lend_ge {n : Nat} {l : Nat → Int} {m : Int} {r : Nat → Int} (hG : GoodL n l m) (h : GoodR n r) : mcE n l m ≤ lend m.toNat l r n := by
  have hm := hG.m1
  have hmm : ((m.toNat : Nat) : Int) = m := by omega
  have hx : ∀ x ∈ rl r n, 0 ≤ l x := fun x hx => (hG.l x (List.mem_range.1 ((rl_perm h).subset hx))).1
  have h0 : 0 ≤ lend m.toNat l r n := endP_ge0 _ 0
  have h1 : lmax l n ≤ lend m.toNat l r n := by
    rcases lmax_is l n with e | ⟨i, hi, e⟩
    · rw [e]; exact h0
    · rw [e]
      have h6 : i ∈ (prts m.toNat l zer (rl r n)).map Prt.j := by rw [prts_jobs]; exact (rl_perm h).symm.subset (List.mem_range.2 hi)
      obtain ⟨p, h7, h8⟩ := List.mem_map.1 h6
      have h9 := prts_mem m.toNat l (rl r n) zer (by omega) hx (fun _ => Int.le_refl _) p h7
      have h10 := endP_ge _ 0 p h7
      have h11 : lend m.toNat l r n = endP 0 (prts m.toNat l zer (rl r n)) := rfl
      rw [h11]
      rw [h9.2.2.2, h8] at h10
      omega
  have h2 : Lin.ssum l n ≤ lend m.toNat l r n * m := by
    have h3 := ssum_le m.toNat (fun c hc => loads_end m.toNat l (rl r n) zer 0 (fun _ _ => Int.le_refl _) c hc)
    rw [loads_sum m.toNat l (by omega), ssum_zer, psum_all h, hmm] at h3
    have h11 : lend m.toNat l r n = endP 0 (prts m.toNat l zer (rl r n)) := rfl
    rw [h11]
    omega
  have h3 : (Lin.ssum l n + m - 1) / m ≤ lend m.toNat l r n := by
    refine Int.le_of_lt_add_one ((Int.ediv_lt_iff_lt_mul (by omega)).2 ?_)
    rw [Int.add_mul]
    omega
  unfold mcE
  omega
theorem graham_one {n : Nat} {l : Nat → Int} {m : Int} {r : Nat → Int} (hG : GoodL n l m) (h : GoodR n r) : lend m.toNat l r n * m ≤ mcE n l m * (2 * m - 1) := by
  have hm := hG.m1
  have hmm : ((m.toNat : Nat) : Int) = m := by omega
  have := graham m.toNat l (xs := rl r n) (M := mcE n l m) (by omega) (fun x hx => by
    have hxn := List.mem_range.1 ((rl_perm h).subset hx)
    have h1 := hG.l x hxn
    have h2 := lmax_ge l n x hxn
    have h3 := mcE_long (n := n) (l := l) (m := m)
    omega) (by rw [psum_all h, hmm]; exact mcE_all hG) (mcE_bd hG).1
  rw [hmm] at this
  exact this
theorem graham_two {n : Nat} {l : Nat → Int} {m : Int} {g s : Nat → Nat} (hG : GoodL n l m) (hg : Re 0 n id g) (hs : Re 0 n id s) (hsr : Sr (ltc (fun i k => cmpI (l k) (l i))) g 0 n) : 3 * lend m.toNat l (nI g) n * m ≤ lend m.toNat l (nI s) n * (4 * m - 1) := by
  have hm := hG.m1
  have hmm : ((m.toNat : Nat) : Int) = m := by omega
  have hlt := hg.lt (Nat.le_refl _) (fun i hi => hi)
  have := longest m.toNat l (xs := rl (nI g) n) (ys := rl (nI s) n) (by omega) ((rl_perm (goodR_re hg)).trans (rl_perm (goodR_re hs)).symm) (fun x hx => (hG.l x (List.mem_range.1 ((rl_perm (goodR_re hg)).subset hx))).1) (by
    rw [rl_nI]
    refine pair_map fun p q hpq hq => ?_
    have h1 := lo_not (n := n) wo_g (hlt p (by omega)) (hlt q hq) (hsr p q (Nat.zero_le _) hpq hq)
    rw [lg_key] at h1
    have := of_decide_eq_false h1
    omega)
  rw [hmm] at this
  exact this
end Go.Proofs.YtepgdlgifempeaaDoor
