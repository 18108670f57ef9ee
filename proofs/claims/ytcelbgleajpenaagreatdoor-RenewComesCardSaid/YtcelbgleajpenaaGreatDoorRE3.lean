/- Renewals by the document: Many. -/
import Derived.Test.YtcelbgleajpenaaGreatDoorRE2
import Derived.Test.YtcelbgleajpenaaGreatDoorRL1
import Derived.Test.YtcelbgleajpenaaGreatDoorBI
namespace Go.Proofs.YtcelbgleajpenaaGreatDoor
open Go.RowKit Go.Sort Go.Shelf

/-- A piece of a row that is read. -/
theorem RList.cut {w : World} {b o c k t n : Nat} {f : Nat → Rat} (h : RList w (.slice (some ⟨b, o, none⟩) n c) (row f n)) (hk : k + t ≤ n) : RList w (.slice (some ⟨b, o + k, none⟩) t (c - k)) (row (fun j => f (k + j)) t) := by
  obtain ⟨a', c', e, h1, h2, h3⟩ := h
  injection e with e1 e2 e3
  rw [row_length] at h1 h3 e2
  subst e1 e3
  refine ⟨_, c - k, by rw [row_length], by rw [row_length]; omega, by omega, fun hp => ?_⟩
  rw [row_length] at hp
  obtain ⟨b', o', ea, hlt, hc⟩ := h3 (by omega)
  injection ea with ea
  injection ea with ea eb
  subst ea eb
  refine ⟨b, o + k, rfl, hlt, fun j hj => ?_⟩
  rw [row_length] at hj
  obtain ⟨g, e1, e2⟩ := hc (k + j) (by first | omega | (rw [row_length]; omega))
  refine ⟨g, by rw [Nat.add_assoc]; exact e1, ?_⟩
  rw [row_get (by omega)] at e2
  rw [row_get hj]
  exact e2
theorem qsum_rowm (f : Nat → Rat) : ∀ k n, k ≤ n → qsum (row f n) k = Bth.ps f k
  | 0, _, _ => rfl
  | k + 1, n, h => by
    show qsum (row f n) k + (row f n)[k]! = Bth.ps f k + f k
    rw [qsum_rowm f k n (by omega), row_get (by omega)]
set_option maxHeartbeats 16000000 in
set_option maxRecDepth 100000 in
set_option linter.unusedSimpArgs false in
theorem refMany_any (v : Value) (qs : List Rat) (x : Nat → Rat) (c up S K : Nat) (w : World) (h : RList w v qs) (hx : xq qs = x) (hc : c + 1 = qs.length) (hcz : ∀ j, c < j → x j = 0) (hS : CmS x c up S) (hK : up + 1 = K) (hup : up ≤ 100) (hS2 : S ≤ 1000) :
    Calls Tryz.prog 29 #[v, .int .i64 (up : Int)] w fun e w' => ∃ u, e = .returned u ∧ RList w' u (row (Rnw.mv x) K) ∧ Below w.heap.size w w' := by
  have HCM := hide (refComes_any v qs x c up S K w h hx hc hcz hS hK hup (by omega))
  have HRU : Hid (∀ t, t ≤ up → RS (Rnw.u x t) S) := fun t ht => by
    have := hS.oca up t ht
    rw [Rnw.oca_u hcz t up ht] at this
    exact this
  have HM0 : Hid (Rnw.mv x 0 = 0) := rfl
  have HMV : Hid (∀ k, Bth.ps (fun j => Rnw.u x (1 + j)) k = Rnw.mv x k) := fun k => by
    unfold Rnw.mv
    congr 1
    funext i
    rw [Nat.add_comm]
  obtain ⟨uf, huf⟩ : ∃ f, Rnw.u x = f := ⟨_, rfl⟩
  obtain ⟨mf, hmf⟩ : ∃ f, Rnw.mv x = f := ⟨_, rfl⟩
  rw [huf] at HCM HRU HMV
  rw [hmf] at HM0 HMV ⊢
  obtain ⟨a, cp, rfl, m1, m2, -⟩ := h
  obtain ⟨nq, hnq⟩ : ∃ n, qs.length = n := ⟨_, rfl⟩
  rw [hnq] at m1 HCM ⊢
  obtain ⟨ti, hi, hz0, hz1, hz2⟩ := info_parts Tryz.infoP
  have HI := hide hi
  have HZ := hide hz0
  clear hx hc hcz hS huf hmf hnq hi hz0
  go_enter Tryz.func29, Tryz.ntmps29
  go_wp2_with fail
  refine (unhide HCM).mono ?_
  rintro e w1 ⟨v1, rfl, hl1, hb1⟩
  have HL1 := hide hl1
  have HB1 := hide hb1
  have HI1 := hide (refIntz_any 0 (by decide) (by decide) w1)
  obtain ⟨a1, c1, rfl, n1, n2, n3⟩ := id hl1
  rw [row_length] at n1 n3 HL1 ⊢
  obtain ⟨b1, o1, rfl, hlt1, -⟩ := n3 (by omega)
  clear hl1 hb1 HCM n3
  go_wp2_with fail
  refine (unhide HI1).mono ?_
  rintro e wb ⟨bx, rfl, -, z3, hb3⟩
  have HB3 := hide (below_step (unhide HB1) hb3)
  have HLB : Hid (∀ W, Below wb.heap.size wb W → RList W (.slice (some ⟨b1, o1, none⟩) K c1) (row uf K)) := fun W hW => ((unhide HL1).below hb3).below hW
  have HT0 := hide (PAt.one (qs := row mf K) (Below.refl wb.heap.size wb) (x := bx) (by rw [row_get (by omega), unhide HM0, show (0 : Rat) = ((0 : Int) : Rat) by simp]; exact z3))
  clear z3 hb3 HI1 HL1 HB1
  go_wp2_with fail
  go_loopw [6, 7] (fun vw vk wr => ∃ (k : Nat) (gs : List Nat), vk = .int .i64 (k : Int) ∧ 1 ≤ k ∧ k ≤ K ∧ gs.length = k ∧ PAt wb wr wb.heap.size vw gs (row mf K)) (fun _ vk _ => K - (intOf vk).toNat)
  case atStart => exact ⟨1, _, rfl, Nat.le_refl _, by omega, rfl, unhide HT0⟩
  case round =>
    obtain ⟨k, gs, rfl, hk1, hk, hgl, T⟩ := hrel
    clear HT0
    by_cases hkn : k < K
    · have HKN := hide hkn
      have j1 : (k : Int) ≤ (up : Int) := by omega
      obtain ⟨k', hk'⟩ : ∃ j, k + 1 = j := ⟨_, rfl⟩
      have jk : (k : Int) + 1 = (k' : Int) := by omega
      have jkw : IntKind.i64.wrap (k' : Int) = (k' : Int) := by rw [IntKind.wrap_i64]; omega
      have s0 : (0 : Int) ≤ (k' : Int) := by omega
      have s1 : (1 : Int) ≤ (k' : Int) := by omega
      have s2 : (k' : Int) ≤ (c1 : Int) := by omega
      have s3 : k' ≤ c1 := by omega
      have s4 : 1 ≤ k' := by omega
      have s5 : k' - 1 = k := by omega
      have s6 : ¬ (c1 - 1 = 0) := by omega
      have hL := (unhide HLB wr T.bl).cut (k := 1) (t := k) (by omega)
      have hsu := refSum_any _ (row (fun j => uf (1 + j)) k) S wr hL (fun j hj => by
        rw [row_length] at hj
        rw [row_get hj]
        exact unhide HRU (1 + j) (by omega)) (by rw [row_length]; have := Nat.mul_le_mul (show k ≤ 101 by omega) (show S + 1 ≤ 1001 by omega); omega)
      rw [row_length, qsum_rowm _ k k (Nat.le_refl _), unhide HMV] at hsu
      have HSU := hide hsu
      have HT := hide T
      have HGL := hide hgl
      have HKK : Hid (k + 1 = k') := hk'
      clear T hL hsu hgl hk'
      go_wp2_with fail
      refine (unhide HSU).mono ?_
      rintro e w5 ⟨b5, rfl, -, z5, hb5⟩
      have hr2 : BRz w5 b5 0 (row mf K)[gs.length]! := by rw [unhide HGL, row_get (unhide HKN)]; exact z5
      have T2 := ((unhide HT).keep hb5).keep (abelow w5 (.cells #[.pointer (some ⟨b5, 0, none⟩)] 31))
      have hr3 := hr2.below (abelow w5 (.cells #[.pointer (some ⟨b5, 0, none⟩)] 31))
      have hgl := unhide HGL
      have hlen8 : (gs.length + 1) * 8 ≤ 140737488355328 := by omega
      have hlen63 : gs.length + 1 ≤ maxLen := by unfold maxLen; omega
      have hbase : wb.heap.size ≤ (w5.alloc (.cells #[.pointer (some ⟨b5, 0, none⟩)] 31)).heap.size := T2.bl.size
      have hsz2 : (w5.alloc (.cells #[.pointer (some ⟨b5, 0, none⟩)] 31)).heap.size = w5.heap.size + 1 := by rw [alloc_heap, Array.size_push]
      have HT2 := hide T2
      have HR3 := hide hr3
      have HBA := hide hbase
      have HSZ := hide hsz2
      have HL8 := hide hlen8
      have HL63 := hide hlen63
      clear T2 hr2 hr3 hbase hsz2 hlen8 hlen63 hgl z5 hb5 HSU HT
      go_wp2_with (at_builtin; go_loud (refine wpList_append_ptr _ rfl _ _ _ rfl wb.heap.size 31 ti 8 Tryz.underlying29 (unhide HI) (unhide HZ) hz1 hz2 _ gs.length (ptrs gs) rfl (unhide HT2).own (unhide HT2).no ⟨w5.heap.size, 0, none⟩ 1 1 [.pointer (some ⟨b5, 0, none⟩)] rfl rfl (news_ptr w5 b5 _) (one_ptr b5) (is_ptr b5) (by decide) (unhide HL63) (unhide HL8) (unhide HBA) (w5.heap.size + 1) (unhide HSZ) ?_; intro g cap w4 hown4 hgrow hat hlt4 hno4))
      have FIN := hide ((unhide HT2).push (unhide HR3) hown4 hgrow hno4 (unhide HBA))
      clear hown4 hgrow hat hno4 HT2 HR3
      go_wp2_with fail
      exact ⟨⟨k', gs ++ [b5], by go_num, by have := unhide HKK; omega, by have := unhide HKN; have := unhide HKK; omega, by rw [List.length_append, unhide HGL]; exact unhide HKK, unhide FIN⟩, by have := unhide HKN; have := unhide HKK; simp [intOf]; omega⟩
    · obtain rfl : k = K := by omega
      have j1 : ¬ (k : Int) ≤ (up : Int) := by omega
      have hL := T.list hgl (Nat.le_refl _)
      have HL := hide hL
      have HB := hide (below_step (unhide HB3) T.bl)
      clear T hL hgl
      go_wp2
      (try simp only [Exit.inBlock, Exit.then])
      (try go_wp2)
      go_ret
      exact ⟨_, rfl, unhide HL, unhide HB⟩
end Go.Proofs.YtcelbgleajpenaaGreatDoor
