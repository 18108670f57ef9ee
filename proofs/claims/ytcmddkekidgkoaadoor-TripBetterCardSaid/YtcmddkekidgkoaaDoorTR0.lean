/- A row of one number, repeated. -/
import Derived.Test.YtcmddkekidgkoaaDoorL0
import Derived.Test.YtcmddkekidgkoaaDoorShelf
import Derived.Deep.AppendSrc
import Derived.Deep.RegionLaw
namespace Go.Proofs.YtcmddkekidgkoaaDoor
open Go.RowKit Go.Sort Go.Shelf

theorem setRow_grown (w : World) (g : Nat) (cs : Array Value) : w.grownBy (w.setRow g cs) (some g) :=
  ⟨rfl, rfl, rfl, by simp [World.setRow], fun k hk hne => setRow_other w g k cs (fun e => hne (by rw [e]))⟩
theorem addr_plus (b o j : Nat) : (⟨b, o, none⟩ : Addr).add j = ⟨b, o + j, none⟩ := by
  by_cases hj : j = 0
  · subst hj; simp [Addr.add]
  · simp [Addr.add, hj]
theorem lrow_one (lf : Nat → Int) (n : Nat) : ∀ v ∈ lrow lf n, v.oneCell' = true := fun v hv => by
  obtain ⟨j, _, rfl⟩ := List.mem_map.1 hv
  rfl
/-- The first k of n are x. -/
def rp (x : Int) (k : Nat) : Nat → Int := fun j => if j < k then x else 0
theorem rp_copy (x : Int) {n k m : Nat} (hk : k + m ≤ n) : (lrow (rp x k) n).take k ++ lrow (fun _ => x) m ++ (lrow (rp x k) n).drop (k + (lrow (fun _ => x) m).length) = lrow (rp x (k + m)) n := by
  apply List.ext_getElem?
  intro j
  rw [lrow_length]
  rcases Nat.lt_or_ge j n with h | h
  · rw [lrow_get _ h]
    unfold rp
    rcases Nat.lt_or_ge j k with c | c
    · rw [List.append_assoc, List.getElem?_append_left (by rw [List.length_take, lrow_length]; omega), List.getElem?_take_of_lt c, lrow_get _ h, if_pos c, if_pos (by omega)]
    · rcases Nat.lt_or_ge j (k + m) with c2 | c2
      · rw [List.append_assoc, List.getElem?_append_right (by rw [List.length_take, lrow_length]; omega), List.length_take, lrow_length, Nat.min_eq_left (by omega), List.getElem?_append_left (by rw [lrow_length]; omega), lrow_get _ (by omega), if_pos c2]
      · rw [List.getElem?_append_right (by rw [List.length_append, List.length_take, lrow_length, lrow_length]; omega), List.length_append, List.length_take, lrow_length, lrow_length, Nat.min_eq_left (by omega), List.getElem?_drop, show k + m + (j - (k + m)) = j by omega, lrow_get _ h, if_neg (by omega), if_neg (by omega)]
  · rw [List.getElem?_eq_none (by rw [List.length_append, List.length_append, List.length_take, List.length_drop, lrow_length, lrow_length]; omega), List.getElem?_eq_none (by rw [lrow_length]; exact h)]
theorem rp_cells {w : World} {g n k : Nat} {x : Int} (h : OwnI w g n (rp x k)) {m : Nat} (hm : m ≤ k) (hk : k ≤ n) : ∀ j v, (lrow (fun _ => x) m)[j]? = some v → w.cell? ((⟨g, 0, none⟩ : Addr).add j) = some v := fun j v hv => by
  have hj : j < m := by
    rcases Nat.lt_or_ge j m with h | h
    · exact h
    · rw [List.getElem?_eq_none (by rw [lrow_length]; exact h)] at hv; cases hv
  rw [lrow_get _ hj] at hv
  rw [addr_plus, Nat.zero_add, h.cell (by omega), ← hv]
  unfold rp
  rw [if_pos (by omega)]
theorem OwnI.rped {w : World} {g n k m : Nat} {x : Int} (h : OwnI w g n (rp x k)) : OwnI (w.setRow g (lrow (rp x (k + m)) n).toArray) g n (rp x (k + m)) := setRow_heap _ _ _ _ _ _ h
theorem Tryd.sizeI : (Tryd.prog.info? 3).map (·.size) = some 1 := by kernel_rfl
theorem cap_le {n : Nat} (h : n ≤ 1000) : (n : Int) ≤ 1099511627776 := by omega
set_option maxHeartbeats 4000000 in
set_option maxRecDepth 100000 in
set_option linter.unusedSimpArgs false in
theorem repeat_any (b : Nat) (x : Int) (n : Nat) (w : World) (hb : w.heap[b]? = some (.cells #[.int .i64 x] 3)) (hn1 : 1 ≤ n) (hn : n ≤ 1000) :
    Calls Tryd.prog 73 #[.slice (some ⟨b, 0, none⟩) 1 1, .int .i64 (n : Int)] w fun e w' => ∃ G, w.heap.size ≤ G ∧ e = .returned (.slice (some ⟨G, 0, none⟩) n n) ∧ OwnI w' G n (fun _ => x) ∧ Below w.heap.size w w' := by
  have n0 : ¬ (n : Int) < 0 := by omega
  have c1 : IntKind.u64.wrap (1 : Int) = 1 := rfl
  have c2 : IntKind.u64.wrap (n : Int) = (n : Int) := by rw [IntKind.wrap_u64]; omega
  have c3 : IntKind.i64.wrap (n : Int) = (n : Int) := by rw [IntKind.wrap_i64]; omega
  have HMU := hide (Tryd.bits_Mul 1 n (by decide) (by omega) w)
  have qmk := make_ints n (by omega) w
  have S0 := make_own w n
  have bA := alloc_below w (.cells (lrow (fun _ => 0) n).toArray 3)
  obtain ⟨W1, hW1⟩ : ∃ W, w.alloc (.cells (lrow (fun _ => 0) n).toArray 3) = W := ⟨_, rfl⟩
  obtain ⟨g, hg⟩ : ∃ g, w.heap.size = g := ⟨_, rfl⟩
  rw [hW1] at qmk S0 bA
  rw [hg] at qmk S0
  have S0 : OwnI W1 g n (rp x 0) := S0.congr (fun j _ => by unfold rp; rw [if_neg (by omega)])
  have hbk : W1.heap[b]? = some (.cells #[.int .i64 x] 3) := by rw [bA.block b (Array.getElem?_eq_some_iff.1 hb).1]; exact hb
  have hcp := run_copy_row (P := Tryd.prog) W1 31 31 3 3 g 0 n n ⟨b, 0, none⟩ 1 1 _ _ (lrow (fun _ => x) 1) Tryd.underlying31 Tryd.sizeI S0 (by rw [lrow_length]; exact (Nat.min_eq_left hn1).symm) (fun j v hv => by
    exact World.news_of_block (cs := #[.int .i64 x]) (t := 3) (fr := (0, 0)) hbk j v hv) (by rw [List.size_toArray, lrow_length, lrow_length]; omega) (lrow_one _ _)
  have hrc := rp_copy x (n := n) (k := 0) (m := 1) (by omega)
  have S1 := S0.rped (m := 1)
  rw [List.toList_toArray, hrc, lrow_length] at hcp
  have B1 := below_setRow bA (Nat.le_of_eq hg) (lrow (rp x (0 + 1)) n).toArray
  obtain ⟨W2, hW2⟩ : ∃ W, W1.setRow g (lrow (rp x (0 + 1)) n).toArray = W := ⟨_, rfl⟩
  rw [hW2] at hcp S1 B1
  have HS1 : Hid (OwnI W2 g n (rp x 1)) := S1
  have HB1 := hide B1
  have HGE : Hid (w.heap.size ≤ g) := by show _ ≤ g; rw [hg]; exact Nat.le_refl _
  clear hb S0 S1 bA hbk hrc hW2 B1
  go_enter Tryd.func73, Tryd.ntmps73
  go_wp2_with fail
  refine (unhide HMU).mono ?_
  rintro e w0 ⟨rfl, rfl⟩
  have d1 : ((1 * n / 18446744073709551616 : Nat) : Int) = 0 := by omega
  have d2 : ((1 * n % 18446744073709551616 : Nat) : Int) = (n : Int) := by omega
  have d3 : ¬ (9223372036854775807 : Int) < (n : Int) := by omega
  (try rw [d1, d2])
  go_wp2_with fail
  clear qmk hcp hW1 hg d1 d2 d3 c1 c2 c3 n0
  go_loopw [8] (fun vk wr => ∃ k : Nat, vk = .int .i64 (k : Int) ∧ 1 ≤ k ∧ k ≤ n ∧ OwnI wr g n (rp x k) ∧ Below w0.heap.size w0 wr) (fun vk _ => n - (intOf vk).toNat)
  case atStart => exact ⟨1, rfl, Nat.le_refl _, hn1, unhide HS1, unhide HB1⟩
  case round =>
    obtain ⟨k, rfl, hk1, hkn, S, hb⟩ := hrel
    clear HS1 HB1
    by_cases hlt : k < n
    · have j1 : (k : Int) < (n : Int) := by omega
      have j0 : (0 : Int) ≤ (k : Int) := by omega
      have j2 : (k : Int) ≤ (n : Int) := by omega
      have j3 : ¬ n = k := by omega
      obtain ⟨m, hm⟩ : ∃ m, Nat.min k (n - k) = m := ⟨_, rfl⟩
      have hm1 : 1 ≤ m := by rw [← hm]; exact Nat.le_min.2 ⟨hk1, by omega⟩
      have hm2 : k + m ≤ n := by have : m ≤ n - k := by rw [← hm]; exact Nat.min_le_right _ _
                                 omega
      have hm3 : m ≤ k := by rw [← hm]; exact Nat.min_le_left _ _
      have e4 : IntKind.i64.wrap ((k : Int) + (m : Int)) = ((k + m : Nat) : Int) := by rw [IntKind.wrap_i64]; omega
      have HM := hide hm
      have HKN := hide hkn
      have HMK := hide hm3
      have HKM := hide hm2
      have HM1 := hide hm1
      have HS := hide S
      have HB := hide hb
      have HTR : Hid (∀ W : World, Below wr.heap.size wr W → (fun _ : World => True) W) := fun _ _ => trivial
      clear S hm hm1 hm2 hm3 hkn hb
      go_wp2_with fail
      refine wp_region_till (fun _ : World => True) 7 (by kernel_rfl) ?_
      have bd0 : Below wr.heap.size wr wr.drew := (Below.refl _ _).drew
      obtain ⟨Wd, hWd⟩ : ∃ W, wr.drew = W := ⟨_, rfl⟩
      rw [hWd] at bd0 ⊢
      have hC0 : (fun _ : World => True) Wd := unhide HTR _ bd0
      refine wpTill_pure (i := 0) (v := ?_) rfl (by kernel_rfl) (by kernel_rfl) (by kernel_rfl) (by kernel_rfl) (fun _ _ _ h => h) (Or.inl ⟨by rfl, ?_⟩) (fun _ => hC0) ?_
      rotate_left
      · intro w hSw; clear hSw; go_simp; (try with_reducible rfl)
      (try simp only [List.getElem_toArray, List.getElem_cons_succ, List.getElem_cons_zero])
      (try simp only [Act.put, List.setIfInBounds_toArray, List.set_cons_zero, List.set_cons_succ])
      refine wpTill_pure (i := 1) (v := ?_) rfl (by kernel_rfl) (by kernel_rfl) (by kernel_rfl) (by kernel_rfl) (fun _ _ _ h => h) (Or.inl ⟨by rfl, ?_⟩) (fun _ => hC0) ?_
      rotate_left
      · intro w hSw; clear hSw; go_simp; (try with_reducible rfl)
      (try simp only [List.getElem_toArray, List.getElem_cons_succ, List.getElem_cons_zero])
      (try simp only [Act.put, List.setIfInBounds_toArray, List.set_cons_zero, List.set_cons_succ])
      refine wpTill_pure (i := 2) (v := ?_) rfl (by kernel_rfl) (by kernel_rfl) (by kernel_rfl) (by kernel_rfl) (fun _ _ _ h => h) (Or.inl ⟨by rfl, ?_⟩) (fun _ => hC0) ?_
      rotate_left
      · intro w hSw; clear hSw; go_simp; (try with_reducible rfl)
      (try simp only [List.getElem_toArray, List.getElem_cons_succ, List.getElem_cons_zero])
      (try simp only [Act.put, List.setIfInBounds_toArray, List.set_cons_zero, List.set_cons_succ])
      refine wpTill_pure (i := 3) (v := ?_) rfl (by kernel_rfl) (by kernel_rfl) (by kernel_rfl) (by kernel_rfl) (fun _ _ _ h => h) (Or.inl ⟨by rfl, ?_⟩) (fun _ => hC0) ?_
      rotate_left
      · intro w hSw; clear hSw; go_simp; (try with_reducible rfl)
      (try simp only [List.getElem_toArray, List.getElem_cons_succ, List.getElem_cons_zero])
      (try simp only [Act.put, List.setIfInBounds_toArray, List.set_cons_zero, List.set_cons_succ])
      refine wpTill_pure (i := 4) (v := ?_) rfl (by kernel_rfl) (by kernel_rfl) (by kernel_rfl) (by kernel_rfl) (fun _ _ _ h => h) (Or.inl ⟨by rfl, ?_⟩) (fun _ => hC0) ?_
      rotate_left
      · intro w hSw; clear hSw; go_simp; (try with_reducible rfl)
      (try simp only [List.getElem_toArray, List.getElem_cons_succ, List.getElem_cons_zero])
      (try simp only [Act.put, List.setIfInBounds_toArray, List.set_cons_zero, List.set_cons_succ])
      refine wpTill_pure (i := 5) (v := ?_) rfl (by kernel_rfl) (by kernel_rfl) (by kernel_rfl) (by kernel_rfl) (fun _ _ _ h => h) (Or.inl ⟨by rfl, ?_⟩) (fun _ => hC0) ?_
      rotate_left
      · intro w hSw; clear hSw; go_simp; (try with_reducible rfl)
      (try simp only [List.getElem_toArray, List.getElem_cons_succ, List.getElem_cons_zero])
      (try simp only [Act.put, List.setIfInBounds_toArray, List.set_cons_zero, List.set_cons_succ])
      refine wpTill_pure (i := 6) (v := ?_) rfl (by kernel_rfl) (by kernel_rfl) (by kernel_rfl) (by kernel_rfl) (fun _ _ _ h => h) (Or.inl ⟨by rfl, ?_⟩) (fun _ => hC0) ?_
      rotate_left
      · intro w hSw; clear hSw; go_simp; (try with_reducible rfl)
      (try simp only [List.getElem_toArray, List.getElem_cons_succ, List.getElem_cons_zero])
      (try simp only [Act.put, List.setIfInBounds_toArray, List.set_cons_zero, List.set_cons_succ])
      have SD := (unhide HS).keep bd0
      have hcp := run_copy_row (P := Tryd.prog) Wd 31 31 3 3 g k (n - k) (n - k) ⟨g, 0, none⟩ k n _ _ (lrow (fun _ => x) m) Tryd.underlying31 Tryd.sizeI SD (by rw [lrow_length]; exact (unhide HM).symm) (rp_cells SD (unhide HMK) (unhide HKN)) (by rw [List.size_toArray, lrow_length, lrow_length]; exact unhide HKM) (lrow_one _ _)
      have SF := SD.rped (m := m)
      rw [List.toList_toArray, rp_copy x (unhide HKM), lrow_length] at hcp
      have HBF := hide (below_setRow (below_step (unhide HB) bd0) (unhide HGE) (lrow (rp x (k + m)) n).toArray)
      obtain ⟨W9, hW9⟩ : ∃ W, Wd.setRow g (lrow (rp x (k + m)) n).toArray = W := ⟨_, rfl⟩
      rw [hW9] at hcp SF HBF
      have HSF := hide SF
      clear SD SF
      refine wpTill_one (k := 7) (by kernel_rfl) rfl (fun K hK => ?_)
      (try simp only [List.getElem_toArray, List.getElem_cons_succ, List.getElem_cons_zero])
      go_simp
      refine hK.out _ _ (fun h => absurd (h.symm.trans (by kernel_rfl)) Bool.false_ne_true) ?_
      clear hK K
      (try simp only [Act.put, List.setIfInBounds_toArray, List.set_cons_zero, List.set_cons_succ])
      refine wpTill_pure (i := 8) (v := ?_) rfl (by kernel_rfl) (by kernel_rfl) (by kernel_rfl) (by kernel_rfl) (fun _ _ _ h => h) (Or.inl ⟨by rfl, ?_⟩) (fun h => absurd (h.symm.trans (by kernel_rfl)) Bool.false_ne_true) ?_
      rotate_left
      · intro w hSw; clear hSw; go_simp; (try with_reducible rfl)
      (try simp only [List.getElem_toArray, List.getElem_cons_succ, List.getElem_cons_zero])
      (try simp only [Act.put, List.setIfInBounds_toArray, List.set_cons_zero, List.set_cons_succ])
      refine wpTill_pure (i := 9) (v := ?_) rfl (by kernel_rfl) (by kernel_rfl) (by kernel_rfl) (by kernel_rfl) (fun _ _ _ h => h) (Or.inl ⟨by rfl, ?_⟩) (fun h => absurd (h.symm.trans (by kernel_rfl)) Bool.false_ne_true) ?_
      rotate_left
      · intro w hSw; clear hSw; go_simp; (try with_reducible rfl)
      (try simp only [List.getElem_toArray, List.getElem_cons_succ, List.getElem_cons_zero])
      (try simp only [Act.put, List.setIfInBounds_toArray, List.set_cons_zero, List.set_cons_succ])
      refine wpTill_done (by kernel_rfl) ?_ _
      clear bd0 hC0 hWd hW9 hcp HTR
      go_wp2_with fail
      exact ⟨⟨k + m, rfl, by have := unhide HM1; omega, unhide HKM, unhide HSF, unhide HBF⟩, by have := unhide HM1; have := unhide HKM; simp [intOf]; omega⟩
    · obtain rfl : k = n := by omega
      have j1 : ¬ (k : Int) < (k : Int) := by omega
      have HLW : Hid (OwnI wr g k (fun _ => x)) := S.congr (fun j hj => by unfold rp; rw [if_pos hj])
      have HB := hide hb
      clear S hb
      go_wp2
      go_ret
      exact ⟨g, unhide HGE, rfl, unhide HLW, unhide HB⟩

end Go.Proofs.YtcmddkekidgkoaaDoor
