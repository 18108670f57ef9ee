/- The document's Trim. -/
import Derived.Test.YtnmmfcoclpapdaaGreatDoorB49
namespace Go.Proofs.YtnmmfcoclpapdaaGreatDoor
open Go.RowKit Go.Sort Go.Shelf

theorem sign_zero {x : Int} : (x.sign == 0) = decide (x = 0) := by
  by_cases h : x = 0
  · subst h; rfl
  · rw [decide_eq_false h, beq_eq_false_iff_ne]
    exact fun e => h (Int.sign_eq_zero_iff_zero.1 e)
theorem tlen_step (qs : List Rat) {n : Nat} (h : 1 < n) : tlen qs n = if qs[n - 1]!.num = 0 then tlen qs (n - 1) else n := by
  obtain ⟨m, rfl⟩ : ∃ m, n = m + 2 := ⟨n - 2, by omega⟩
  rw [tlen]; rfl
theorem ptrs_one (gs : List Nat) : ∀ u ∈ ptrs gs, u.oneCell' = true := by
  intro u hu
  obtain ⟨g, _, rfl⟩ := List.mem_map.1 hu
  rfl
theorem ptrs_are (gs : List Nat) : ∀ u ∈ ptrs gs, isPtr u := by
  intro u hu
  obtain ⟨g, _, rfl⟩ := List.mem_map.1 hu
  trivial
set_option maxHeartbeats 8000000 in
set_option maxRecDepth 100000 in
set_option linter.unusedSimpArgs false in
theorem refTrim_any (v : Value) (qs : List Rat) (w : World) (h : RList w v qs) (hp : 0 < qs.length) (hc : qs.length ≤ 1000) :
    Calls Tryz.prog 51 #[v] w fun e w' => ∃ v, e = .returned v ∧ RList w' v (qs.take (tlen qs qs.length)) ∧ Below w.heap.size w w' := by
  obtain ⟨a, c, rfl, h1, h2, h3⟩ := h
  obtain ⟨b, o, rfl, hblt, hcs⟩ := h3 hp
  obtain ⟨n, hn⟩ : ∃ n, qs.length = n := ⟨_, rfl⟩
  rw [hn] at h1 hcs hp hc ⊢
  obtain ⟨gs, hgl, hgs⟩ := list_of (α := Nat) (n := n) hcs
  obtain ⟨ti, hi, hz0, hz1, hz2⟩ := info_parts Tryz.infoP
  have own1 : (w.alloc (.cells #[] 29)).ownsRow w.heap.size 29 1 (.slice (some ⟨w.heap.size, 0, none⟩) 0 0) 0 [] := World.ownsRow_made w #[] 0 (Nat.le_refl _) (by unfold maxLen; decide) rfl
  have bA := abelow w (.cells #[] 29)
  have no1 : ∀ g, (Value.slice (some ⟨w.heap.size, 0, none⟩) 0 0).ownBlock = some g → Ptrly (w.alloc (.cells #[] 29)) g := fun g e => by
    obtain rfl : w.heap.size = g := Option.some.inj e
    exact ptrly_of (heap_alloc_new w _) (fun u hu => by simp at hu)
  have nw : ∀ j u, (ptrs gs)[j]? = some u → (w.alloc (.cells #[] 29)).cell? ((⟨b, o, none⟩ : Addr).add j) = some u := fun j u hu => by
    have hj : j < n := by
      rcases Nat.lt_or_ge j n with h | h
      · exact h
      · rw [List.getElem?_eq_none (by rw [ptrs_length, hgl]; exact h)] at hu; cases hu
    have hk := (hgs j hj).1
    rw [← bA.cell (p := ⟨b, o + j, none⟩) hblt] at hk
    have e : u = .pointer (some ⟨gs[j]!, 0, none⟩) := by
      simp [ptrs, show j < gs.length by omega] at hu
      rw [← hu]
      simp [show j < gs.length by omega]
    rw [e]
    by_cases hj0 : j = 0
    · subst hj0; simpa [Addr.add] using hk
    · simpa [Addr.add, hj0] using hk
  have rat1 : ∀ j, j < gs.length → BRz (w.alloc (.cells #[] 29)) gs[j]! 0 qs[j]! := fun j hj => (hgs j (by omega)).2.below bA
  have HI := hide hi
  have HZ := hide hz0
  have HOWN := hide own1
  have HNO := hide no1
  have HNW := hide nw
  have HRA := hide rat1
  have HBA := hide bA
  have HGL := hide hgl
  have HN := hide hn
  have HP := hide hp
  have HC := hide hc
  have HBS : Hid (w.heap.size ≤ (w.alloc (.cells #[] 29)).heap.size) := bA.size
  have HL63 : Hid (0 + n ≤ maxLen) := by show _ ≤ _; unfold maxLen; omega
  have HL8 : Hid ((0 + n) * 8 ≤ 140737488355328) := by show _ ≤ _; omega
  have HPL : Hid ((ptrs gs).length = n * 1) := by show _ = _; rw [ptrs_length, hgl, Nat.mul_one]
  clear h1 h2 h3 hcs hgs hi hz0 own1 no1 nw rat1 bA hgl hn hp hc hblt
  go_enter Tryz.func51, Tryz.ntmps51
  go_wp2_with (at_builtin; go_loud (refine wpList_append_ptr _ rfl _ _ _ rfl w.heap.size 29 ti 8 Tryz.underlying56 (unhide HI) (unhide HZ) hz1 hz2 _ 0 [] rfl (unhide HOWN) (unhide HNO) ⟨b, o, none⟩ n c (ptrs gs) rfl (unhide HPL) (unhide HNW) (ptrs_one gs) (ptrs_are gs) (unhide HP) (unhide HL63) (unhide HL8) (unhide HBS) _ rfl ?_; intro g cap w4 hown4 hgrow hat hlt4 hno4))
  rw [List.nil_append, Nat.zero_add] at hown4
  have hR : RList w4 (.slice (some ⟨g, 0, none⟩) n cap) qs := by
    have hgl := unhide HGL
    rw [← hgl] at hown4 ⊢
    exact rlist_of hown4 (by rw [hgl, unhide HN]) (fun j hj => (unhide HRA j hj).far hgrow (unhide HNO))
  have hB4 : Below w.heap.size w w4 := Below.grown (unhide HBA) hgrow (unhide HBS) (fun k hk => by
    obtain rfl : w.heap.size = k := Option.some.inj hk
    exact Nat.le_refl _)
  have HR := hide hR
  have HB4 := hide hB4
  obtain ⟨a', c', e9, r1, r2, r3⟩ := hR
  injection e9 with e91 e92 e93
  subst e91 e93
  obtain ⟨b9, o9, e94, rlt, rcs⟩ := r3 (by rw [unhide HN]; exact unhide HP)
  injection e94 with e94
  injection e94 with e95 e96
  subst e95 e96
  have HRC := hide rcs
  have hnc : n ≤ cap := by rw [unhide HN] at r1; exact r1
  have HNC := hide hnc
  have HCP := hide r2
  clear hown4 hgrow hat hno4 hB4 r1 r2 r3 rcs hnc e92
  (try simp only [Nat.zero_add])
  go_wp2_with fail
  go_loopw [0] (fun v wr => ∃ (m : Nat), v = .slice (some ⟨g, 0, none⟩) m cap ∧ 0 < m ∧ m ≤ n ∧ tlen qs m = tlen qs n ∧ wr = w4) (fun v _ => match v with | .slice _ m _ => m | _ => 0)
  case atStart => exact ⟨n, rfl, unhide HP, Nat.le_refl _, rfl, rfl⟩
  case round =>
    obtain ⟨m, rfl, hm0, hmn, htl, hw⟩ := hrel
    subst hw
    have hnc := unhide HNC
    have hC := unhide HC
    by_cases hm1 : m = 1
    · subst hm1
      have HTL : Hid (tlen qs n = 1) := by show _ = _; rw [← htl]; rfl
      have HRT := hide ((show RList wr (.slice (some ⟨g, 0, none⟩) qs.length cap) qs by rw [unhide HN]; exact unhide HR).take (n := 1) (by rw [unhide HN]; exact hmn))
      clear htl hm0 hmn hnc hC
      go_wp2
      (try simp only [Exit.inBlock, Exit.then])
      (try go_wp2)
      go_ret
      exact ⟨_, rfl, by rw [unhide HTL]; exact unhide HRT, unhide HB4⟩
    · have hm2 : 1 < m := by omega
      have hd : decide ((1 : Int) < (m : Int)) = true := decide_eq_true (by omega)
      obtain ⟨x, k0, kx⟩ := unhide HRC (m - 1) (by rw [unhide HN]; omega)
      rw [Nat.zero_add] at k0
      have HSG := hide (signz_any x 0 qs[m - 1]! wr kx)
      have etl := tlen_step qs hm2
      have esz := sign_zero (x := qs[m - 1]!.num)
      obtain ⟨z, hz⟩ : ∃ z, qs[m - 1]!.num.sign = z := ⟨_, rfl⟩
      rw [hz] at HSG esz
      obtain ⟨m1, hm1'⟩ : ∃ m1, m - 1 = m1 := ⟨_, rfl⟩
      rw [hm1'] at k0 etl esz
      have f1 : IntKind.i64.wrap ((m : Int) - 1) = (m1 : Int) := by rw [IntKind.wrap_i64]; omega
      have f2 : (0 : Int) ≤ (m1 : Int) := by omega
      have f3 : (m1 : Int) < (m : Int) := by omega
      have f4 : (m1 : Int) ≤ (cap : Int) := by omega
      have HM : Hid (0 < m1 ∧ m1 ≤ n ∧ m1 < m) := ⟨by omega, by omega, by omega⟩
      by_cases hq0 : qs[m1]!.num = 0
      · rw [if_pos hq0] at etl
        rw [decide_eq_true hq0] at esz
        have HTL : Hid (tlen qs m1 = tlen qs n) := by show _ = _; rw [← etl]; exact htl
        clear kx etl htl hz hq0 hm1' hm1 hm0 hmn hnc hC
        go_wp2_with fail
        refine (unhide HSG).mono ?_
        rintro e w5 ⟨rfl, hw⟩
        have hw := hw.symm
        subst hw
        clear HSG
        go_wp2_with fail
        exact ⟨⟨m1, rfl, (unhide HM).1, (unhide HM).2.1, unhide HTL, by first | rfl | trivial⟩, (unhide HM).2.2⟩
      · rw [if_neg hq0] at etl
        rw [decide_eq_false hq0] at esz
        have HTL : Hid (tlen qs n = m) := by show _ = _; rw [← htl, etl]
        have HRT := hide ((show RList wr (.slice (some ⟨g, 0, none⟩) qs.length cap) qs by rw [unhide HN]; exact unhide HR).take (n := m) (by rw [unhide HN]; exact hmn))
        clear kx etl htl hz hq0 hm1' hm1 hm0 hmn hnc hC
        go_wp2_with fail
        refine (unhide HSG).mono ?_
        rintro e w5 ⟨rfl, hw⟩
        have hw := hw.symm
        subst hw
        clear HSG
        go_wp2
        (try simp only [Exit.inBlock, Exit.then])
        (try go_wp2)
        go_ret
        exact ⟨_, rfl, by rw [unhide HTL]; exact unhide HRT, unhide HB4⟩
end Go.Proofs.YtnmmfcoclpapdaaGreatDoor
