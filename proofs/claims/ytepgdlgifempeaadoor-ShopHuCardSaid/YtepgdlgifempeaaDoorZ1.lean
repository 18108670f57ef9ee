/- The document's longest first; ShopLongest. -/
import Derived.Test.YtepgdlgifempeaaDoorZ0
import Derived.Test.YtepgdlgifempeaaDoorY17
namespace Go.Proofs.YtepgdlgifempeaaDoor
open Go.RowKit Go.Sort Stb

set_option maxHeartbeats 8000000 in
set_option maxRecDepth 100000 in
set_option linter.unusedSimpArgs false in
theorem rlongest1_any (pa : Nat) (a : Option Addr) (n c : Nat) (l : Nat → Int) (wb W : World) (i k : Nat) (hi : i < n) (hk : k < n) (hn : n ≤ 60) (ha : IRow wb a n c l) (h1 : wb.cell? ⟨pa, 0, none⟩ = some (.slice a n c)) (hpa : pa < wb.heap.size) (hW : Below wb.heap.size wb W) :
    Calls Tryd.prog 43 #[.int .i64 (i : Int), .int .i64 (k : Int), .pointer (some ⟨pa, 0, none⟩)] W fun e w' => e = .returned (.bool (ltc (fun i k => cmpI (l k) (l i)) k i)) ∧ Below W.heap.size W w' := by
  obtain ⟨b, o, rfl, hbl, hc⟩ := ha.2.2 (by omega)
  have hi' := hc i hi
  have hk' := hc k hk
  rw [lg_key]
  obtain ⟨x, hx⟩ : ∃ t, l i = t := ⟨_, rfl⟩
  obtain ⟨y, hy⟩ : ∃ t, l k = t := ⟨_, rfl⟩
  rw [hx] at hi' ⊢
  rw [hy] at hk' ⊢
  have HCC : Hid (∀ W', Below W.heap.size W W' → (fun w' : World => w'.cell? ⟨pa, 0, none⟩ = some (.slice (some ⟨b, o, none⟩) n c) ∧ w'.cell? ⟨b, o + i, none⟩ = some (.int .i64 x) ∧ w'.cell? ⟨b, o + k, none⟩ = some (.int .i64 y)) W') := fun W' hW' => by
    have B := below_step hW hW'
    refine ⟨by rw [B.cell (p := ⟨pa, 0, none⟩) hpa]; exact h1, ?_, ?_⟩
    · rw [B.cell (p := ⟨b, o + i, none⟩) hbl]; exact hi'
    · rw [B.cell (p := ⟨b, o + k, none⟩) hbl]; exact hk'
  have e1 : (i : Int) < (n : Int) := by omega
  have e2 : (k : Int) < (n : Int) := by omega
  have e3 : (0 : Int) ≤ (i : Int) := by omega
  have e4 : (0 : Int) ≤ (k : Int) := by omega
  clear hi' hk' hx hy hc ha h1 hpa hW hbl hi hk
  go_enter Tryd.func43, Tryd.ntmps43
  go_wp2_with fail
  refine wp_region_hold (fun w' : World => w'.cell? ⟨pa, 0, none⟩ = some (.slice (some ⟨b, o, none⟩) n c) ∧ w'.cell? ⟨b, o + i, none⟩ = some (.int .i64 x) ∧ w'.cell? ⟨b, o + k, none⟩ = some (.int .i64 y)) (by kernel_rfl) ?_
  have bd0 : Below W.heap.size W W.drew := (Below.refl _ _).drew
  have hC0 : (fun w' : World => w'.cell? ⟨pa, 0, none⟩ = some (.slice (some ⟨b, o, none⟩) n c) ∧ w'.cell? ⟨b, o + i, none⟩ = some (.int .i64 x) ∧ w'.cell? ⟨b, o + k, none⟩ = some (.int .i64 y)) W.drew := unhide HCC _ bd0
  refine wpHold_take (i := 0) (v := ?_) rfl (by kernel_rfl) (by kernel_rfl) (by kernel_rfl) (fun _ _ _ h => h) (Or.inl ⟨by rfl, ?_⟩) hC0 ?_
  rotate_left
  · intro w hSw; (try dsimp only at hSw); obtain ⟨z0, z1, z2⟩ := hSw; go_simp; (try with_reducible rfl)
  (try simp only [List.getElem_toArray, List.getElem_cons_succ, List.getElem_cons_zero])
  (try simp only [Act.put, List.setIfInBounds_toArray, List.set_cons_zero, List.set_cons_succ])
  refine wpHold_take (i := 1) (v := ?_) rfl (by kernel_rfl) (by kernel_rfl) (by kernel_rfl) (fun _ _ _ h => h) (Or.inl ⟨by rfl, ?_⟩) hC0 ?_
  rotate_left
  · intro w hSw; clear hSw; go_simp; (try with_reducible rfl)
  (try simp only [List.getElem_toArray, List.getElem_cons_succ, List.getElem_cons_zero])
  (try simp only [Act.put, List.setIfInBounds_toArray, List.set_cons_zero, List.set_cons_succ])
  refine wpHold_take (i := 2) (v := ?_) rfl (by kernel_rfl) (by kernel_rfl) (by kernel_rfl) (fun _ _ _ h => h) (Or.inl ⟨by rfl, ?_⟩) hC0 ?_
  rotate_left
  · intro w hSw; clear hSw; go_simp; (try with_reducible rfl)
  (try simp only [List.getElem_toArray, List.getElem_cons_succ, List.getElem_cons_zero])
  (try simp only [Act.put, List.setIfInBounds_toArray, List.set_cons_zero, List.set_cons_succ])
  refine wpHold_take (i := 3) (v := ?_) rfl (by kernel_rfl) (by kernel_rfl) (by kernel_rfl) (fun _ _ _ h => h) (Or.inl ⟨by rfl, ?_⟩) hC0 ?_
  rotate_left
  · intro w hSw; (try dsimp only at hSw); obtain ⟨z0, z1, z2⟩ := hSw; go_simp; (try with_reducible rfl)
  (try simp only [List.getElem_toArray, List.getElem_cons_succ, List.getElem_cons_zero])
  (try simp only [Act.put, List.setIfInBounds_toArray, List.set_cons_zero, List.set_cons_succ])
  refine wpHold_take (i := 4) (v := ?_) rfl (by kernel_rfl) (by kernel_rfl) (by kernel_rfl) (fun _ _ _ h => h) (Or.inl ⟨by rfl, ?_⟩) hC0 ?_
  rotate_left
  · intro w hSw; (try dsimp only at hSw); obtain ⟨z0, z1, z2⟩ := hSw; go_simp; (try with_reducible rfl)
  (try simp only [List.getElem_toArray, List.getElem_cons_succ, List.getElem_cons_zero])
  (try simp only [Act.put, List.setIfInBounds_toArray, List.set_cons_zero, List.set_cons_succ])
  refine wpHold_take (i := 5) (v := ?_) rfl (by kernel_rfl) (by kernel_rfl) (by kernel_rfl) (fun _ _ _ h => h) (Or.inl ⟨by rfl, ?_⟩) hC0 ?_
  rotate_left
  · intro w hSw; clear hSw; go_simp; (try with_reducible rfl)
  (try simp only [List.getElem_toArray, List.getElem_cons_succ, List.getElem_cons_zero])
  (try simp only [Act.put, List.setIfInBounds_toArray, List.set_cons_zero, List.set_cons_succ])
  refine wpHold_take (i := 6) (v := ?_) rfl (by kernel_rfl) (by kernel_rfl) (by kernel_rfl) (fun _ _ _ h => h) (Or.inl ⟨by rfl, ?_⟩) hC0 ?_
  rotate_left
  · intro w hSw; clear hSw; go_simp; (try with_reducible rfl)
  (try simp only [List.getElem_toArray, List.getElem_cons_succ, List.getElem_cons_zero])
  (try simp only [Act.put, List.setIfInBounds_toArray, List.set_cons_zero, List.set_cons_succ])
  refine wpHold_take (i := 7) (v := ?_) rfl (by kernel_rfl) (by kernel_rfl) (by kernel_rfl) (fun _ _ _ h => h) (Or.inl ⟨by rfl, ?_⟩) hC0 ?_
  rotate_left
  · intro w hSw; (try dsimp only at hSw); obtain ⟨z0, z1, z2⟩ := hSw; go_simp; (try with_reducible rfl)
  (try simp only [List.getElem_toArray, List.getElem_cons_succ, List.getElem_cons_zero])
  (try simp only [Act.put, List.setIfInBounds_toArray, List.set_cons_zero, List.set_cons_succ])
  refine wpHold_take (i := 8) (v := ?_) rfl (by kernel_rfl) (by kernel_rfl) (by kernel_rfl) (fun _ _ _ h => h) (Or.inl ⟨by rfl, ?_⟩) hC0 ?_
  rotate_left
  · intro w hSw; clear hSw; go_simp; (try with_reducible rfl)
  (try simp only [List.getElem_toArray, List.getElem_cons_succ, List.getElem_cons_zero])
  (try simp only [Act.put, List.setIfInBounds_toArray, List.set_cons_zero, List.set_cons_succ])
  refine wpHold_take (i := 9) (v := ?_) rfl (by kernel_rfl) (by kernel_rfl) (by kernel_rfl) (fun _ _ _ h => h) (Or.inl ⟨by rfl, ?_⟩) hC0 ?_
  rotate_left
  · intro w hSw; clear hSw; go_simp; (try with_reducible rfl)
  (try simp only [List.getElem_toArray, List.getElem_cons_succ, List.getElem_cons_zero])
  (try simp only [Act.put, List.setIfInBounds_toArray, List.set_cons_zero, List.set_cons_succ])
  refine wpHold_done (by kernel_rfl) ?_ _
  have HBN := hide bd0
  clear hC0 bd0 HCC
  go_wp2
  go_ret
  exact ⟨rfl, unhide HBN⟩

theorem eg_rl (args : Array Value) (w : World) : (callFunc 43 args).run Tryd.prog w = .ok (.enter 43 args) w := by
  go_simp
/-- What the document's rows leave. -/
def RwPost (w : World) (n : Nat) (lt : Nat → Nat → Bool) (e : Ending) (w' : World) : Prop := ∃ (v : Value) (L : List Nat), e = .returned v ∧ OwnN w' w.heap.size v L ∧ L.Perm (List.range n) ∧ L.Pairwise (Lo lt) ∧ Below w.heap.size w w'

set_option maxHeartbeats 8000000 in
set_option maxRecDepth 100000 in
set_option linter.unusedSimpArgs false in
theorem rlongest_any (a : Option Addr) (n c : Nat) (l : Nat → Int) (w : World) (ha : IRow w a n c l) (hn : n ≤ 60) :
    Calls Tryd.prog 24 #[.slice a n c] w (RwPost w n (ltc (fun i k => cmpI (l k) (l i)))) := by
  obtain ⟨wb, hwb⟩ : ∃ W, w.alloc (.cells #[.slice a n c] 23) = W := ⟨_, rfl⟩
  have b1 : Below w.heap.size w wb := by rw [← hwb]; exact alloc_below _ _
  have sz : wb.heap.size = w.heap.size + 1 := by rw [← hwb, alloc_size]
  obtain ⟨pl, hpl⟩ : ∃ p, w.heap.size = p := ⟨_, rfl⟩
  have cb : wb.cell? ⟨pl, 0, none⟩ = some (.slice a n c) := by rw [← hwb, ← hpl]; simp only [World.cell?, heap_alloc_new]; rfl
  have hab := ha.below b1
  have HC := hide (insert_any n pl 43 eg_rl (ltc (fun i k => cmpI (l k) (l i))) wo_g hn wb (fun i k W hi hk hW => rlongest1_any pl a n c l wb W i k hi hk hn hab cb (by omega) hW))
  have HB := hide b1
  have HSZ : Hid (w.heap.size ≤ wb.heap.size) := by show w.heap.size ≤ wb.heap.size; omega
  have h1 := ha.1
  have h2 := ha.2.1
  have HPL := hide hpl
  clear ha hab b1 sz
  go_enter Tryd.func24, Tryd.ntmps24
  go_wp2_with fail
  refine (unhide HC).mono ?_
  rintro e w2 ⟨hb2, v, L, rfl, hO, hp, hs⟩
  have HO : Hid (OwnN w2 w.heap.size v L) := by
    refine ⟨hO.1, ?_⟩
    rcases hO.2 with h | ⟨g, cap, cur, hv, hg, h⟩
    · exact Or.inl h
    · exact Or.inr ⟨g, cap, cur, hv, Nat.le_trans (unhide HSZ) hg, h⟩
  have HP := hide hp
  have HS := hide hs
  have HB2 := hide (below_step (unhide HB) hb2)
  clear hO hp hs hb2 HC
  go_wp2
  go_ret
  exact ⟨v, L, rfl, unhide HO, unhide HP, unhide HS, unhide HB2⟩

set_option maxHeartbeats 8000000 in
set_option maxRecDepth 100000 in
set_option linter.unusedSimpArgs false in
theorem rlengths_any (a : Option Addr) (n c : Nat) (l : Nat → Int) (m : Int) (w : World) (ha : IRow w a n c l) :
    Calls Tryd.prog 18 #[.slice a n c, .int .i64 m] w fun e w' => e = .returned (.int .i64 (lcode n l m)) ∧ w' = w := by
  obtain ⟨h1, h2, h3⟩ := ha
  have H3 := hide h3
  clear h3
  by_cases hn : m < 1 ∨ 20 < m ∨ 60 < n
  · have hv : lcode n l m = 4 := if_pos hn
    rw [hv]
    by_cases g1 : m < 1
    · clear hn hv
      go_enter Tryd.func18, Tryd.ntmps18
      go_wp2
      go_ret
      exact ⟨rfl, rfl⟩
    · by_cases g2 : 20 < m
      · clear hn hv
        go_enter Tryd.func18, Tryd.ntmps18
        go_wp2
        go_ret
        exact ⟨rfl, rfl⟩
      · have g3 : (60 : Int) < (n : Int) := by omega
        clear hn hv
        go_enter Tryd.func18, Tryd.ntmps18
        go_wp2
        go_ret
        exact ⟨rfl, rfl⟩
  have HN := hide hn
  have g1 : ¬ m < 1 := by omega
  have g2 : ¬ 20 < m := by omega
  have g3 : ¬ (60 : Int) < (n : Int) := by omega
  clear hn
  go_enter Tryd.func18, Tryd.ntmps18
  go_wp2
  go_loopw [20] (fun vi wr => ∃ k : Nat, vi = .int .i64 (k : Int) ∧ k ≤ n ∧ (∀ j, j < k → 0 ≤ l j ∧ l j ≤ 1000000000) ∧ wr = w) (fun vi _ => n - (intOf vi).toNat)
  case atStart => exact ⟨0, rfl, Nat.zero_le _, fun j hj => absurd hj (Nat.not_lt_zero _), rfl⟩
  case round =>
    obtain ⟨k, rfl, hk, hj, hwr⟩ := hrel
    have hwr := hwr.symm
    subst hwr
    by_cases hlt : k < n
    · obtain ⟨b, o, rfl, hbl, hc⟩ := unhide H3 (by omega)
      have k0 := hc k hlt
      obtain ⟨x, hx⟩ : ∃ x, l k = x := ⟨_, rfl⟩
      rw [hx] at k0
      have e2 : (0 : Int) ≤ (k : Int) := by omega
      have e3 : (k : Int) < (n : Int) := by omega
      have HJ := hide hj
      have HX := hide hx
      clear hc H3 hj hx
      by_cases q1 : x < 0
      · have HG : Hid (lcode n l m = 2) := lcode_bad (unhide HN) hlt (by rw [unhide HX]; omega)
        go_wp2
        go_ret
        exact ⟨by rw [unhide HG]; rfl, rfl⟩
      · by_cases q2 : 1000000000 < x
        · have HG : Hid (lcode n l m = 2) := lcode_bad (unhide HN) hlt (by rw [unhide HX]; omega)
          go_wp2
          go_ret
          exact ⟨by rw [unhide HG]; rfl, rfl⟩
        · have HG : Hid (0 ≤ l k ∧ l k ≤ 1000000000) := by show 0 ≤ l k ∧ _; rw [unhide HX]; omega
          have e4 : IntKind.i64.wrap ((k : Int) + 1) = (k : Int) + 1 := by rw [IntKind.wrap_i64]; have := unhide HN; omega
          go_wp2
          refine ⟨⟨k + 1, by go_num, hlt, fun j hj => ?_, trivial⟩, by simp [intOf]; omega⟩
          by_cases hjm : j = k
          · rw [hjm]; exact unhide HG
          · exact unhide HJ j (by omega)
    · obtain rfl : k = n := by omega
      have HV : Hid (lcode k l m = 0) := lcode_good (unhide HN) hj
      clear hj
      have e3 : ¬ (k : Int) < (k : Int) := by omega
      go_wp2
      go_ret
      exact ⟨by rw [unhide HV]; rfl, rfl⟩

theorem perm_of_re {n : Nat} {g : Nat → Nat} (h : Re 0 n id g) : ((List.range n).map g).Perm (List.range n) := by
  have := rl_perm (goodR_re h)
  rw [rl_nI] at this
  exact this
/-- Two rows by one order are one. -/
theorem rows_one {n : Nat} {lt : Nat → Nat → Bool} {g : Nat → Nat} {L : List Nat} (W : Wo n lt) (h : Re 0 n id g) (hs : Sr lt g 0 n) (hp : L.Perm (List.range n)) (hL : L.Pairwise (Lo lt)) : L = (List.range n).map g := by
  refine (sorted_unique ((List.range n).map g) L ((perm_of_re h).trans hp.symm) (pair_map fun p q hpq hq => hs p q (Nat.zero_le _) hpq hq) hL ?_).symm
  intro x hx y hy h1
  exact lo_asym W (List.mem_range.1 ((perm_of_re h).subset hx)) (List.mem_range.1 ((perm_of_re h).subset hy)) h1
/-- A row of the program's and the document's. -/
theorem rows_ints {w w' : World} {B n : Nat} {lt : Nat → Nat → Bool} {g : Nat → Nat} {v : Value} {L : List Nat} (W : Wo n lt) (h : Re 0 n id g) (hs : Sr lt g 0 n) (hO : OwnN w B v L) (hp : L.Perm (List.range n)) (hL : L.Pairwise (Lo lt)) (hb : Below w.heap.size w w') : ∃ a c, v = .slice a n c ∧ IRow w' a n c (nI g) := by
  obtain ⟨a, c, hv, hr⟩ := OwnL.irow hO
  have e := rows_one W h hs hp hL
  rw [List.length_map] at hv hr
  have hl : L.length = n := by rw [e]; simp
  rw [hl] at hv hr
  have hr' := hr.below hb
  refine ⟨a, c, hv, hr'.1, hr'.2.1, fun hpos => ?_⟩
  obtain ⟨b, o, h4, h5, h6⟩ := hr'.2.2 hpos
  refine ⟨b, o, h4, h5, fun j hj => ?_⟩
  rw [h6 j hj]
  congr 2
  rw [e]
  unfold nI
  simp [hj]

set_option maxHeartbeats 8000000 in
set_option maxRecDepth 100000 in
set_option linter.unusedSimpArgs false in
theorem shopLongest_any (a : Option Addr) (n c : Nat) (l : Nat → Int) (w : World) (het : ErrTy w) (ha : IRow w a n c l) :
    Calls Tryd.prog 7 #[.slice a n c] w fun e w' => e = .returned (.bool true) ∧ Below w.heap.size w w' := by
  have b1 := ha.1
  have b2 := ha.2.1
  by_cases h1 : 100 < n
  · have e1 : (100 : Int) < (n : Int) := by omega
    clear ha
    go_enter Tryd.func7, Tryd.ntmps7
    go_wp2
    go_ret
    exact ⟨rfl, Below.refl _ _⟩
  have e1 : ¬ (100 : Int) < (n : Int) := by omega
  have HA := hide ha
  have HE := hide het
  have C1 := hide (rlengths_any a n c l 1 w ha)
  have C3 : Hid (∀ W, Below w.heap.size w W → Calls Tryd.prog 25 #[.slice a n c] W (LgPost W n l)) := fun W hW => longest_any a n c l W (ha.below hW)
  by_cases ht : lcode n l 1 = 0
  case neg =>
    obtain ⟨k, hk⟩ : ∃ k, lcode n l 1 = k := ⟨_, rfl⟩
    rw [hk] at C1 ht
    have q1 : (k == 0) = false := by simpa using ht
    have C3' := hide (unhide C3 w (Below.refl _ _))
    have HK := hide hk
    have HT := hide ht
    clear ha het hk C3
    go_enter Tryd.func7, Tryd.ntmps7
    go_wp2_with fail
    refine (unhide C1).mono ?_
    rintro e w1 ⟨rfl, rfl⟩
    clear C1
    go_wp2_with fail
    refine (unhide C3').mono ?_
    rintro e w2 ⟨hb2, hp⟩
    have he : e = .returned (.tuple #[.slice none 0 0, .iface 26 (.int .i64 k)]) := by
      rcases hp with ⟨_, h⟩ | ⟨h, _⟩
      · rw [h, unhide HK]
      · exact absurd (h.symm.trans (unhide HK)) (fun e => unhide HT e.symm)
    subst he
    clear hp
    have C4 := hide (ints_bad k (unhide HT) w2 ((unhide HE).below hb2))
    have HB2 := hide hb2
    clear hb2 C3'
    go_wp2_with fail
    refine (unhide C4).mono ?_
    rintro e w3 ⟨rfl, hb3⟩
    have HB3 := hide (below_step (unhide HB2) hb3)
    clear hb3 C4
    go_wp2
    go_ret
    exact ⟨rfl, unhide HB3⟩
  · have hgl := goodL_of ht
    have C2 := hide (rlongest_any a n c l w ha hgl.few)
    rw [ht] at C1
    have HT := hide ht
    clear ha het hgl ht
    go_enter Tryd.func7, Tryd.ntmps7
    go_wp2_with fail
    refine (unhide C1).mono ?_
    rintro e w1 ⟨rfl, rfl⟩
    clear C1
    go_wp2_with fail
    refine (unhide C2).mono ?_
    rintro e w2 ⟨v, L, rfl, hO, hp, hs, hb2⟩
    have C3' := hide (unhide C3 w2 hb2)
    have HO : Hid (OwnN w2 w1.heap.size v L ∧ L.Perm (List.range n) ∧ L.Pairwise (Lo (ltc (fun i k => cmpI (l k) (l i))))) := ⟨hO, hp, hs⟩
    have HB2 := hide hb2
    clear hO hp hs hb2 C2 C3
    go_wp2_with fail
    refine (unhide C3').mono ?_
    rintro e w3 ⟨hb3, hp⟩
    rcases hp with ⟨h, _⟩ | ⟨_, G, g, _, rfl, hOg, hre, hsr⟩
    · exact absurd (unhide HT) h
    obtain ⟨a', c', rfl, hir⟩ := rows_ints wo_g hre hsr (unhide HO).1 (unhide HO).2.1 (unhide HO).2.2 hb3
    have C4 := hide (ints_good (some ⟨G, 0, none⟩) a' n n c' (nI g) w3 (hOg.irow (by omega)) hir)
    have HB3 := hide (below_step (unhide HB2) hb3)
    have q5 := hir.1
    have q6 := hir.2.1
    clear hb3 hOg hre hsr hir C3' HO
    go_wp2_with fail
    refine (unhide C4).mono ?_
    rintro e w4 ⟨rfl, hb4⟩
    have HB4 := hide (below_step (unhide HB3) hb4)
    clear hb4 C4
    go_wp2
    go_ret
    exact ⟨rfl, unhide HB4⟩
end Go.Proofs.YtepgdlgifempeaaDoor
